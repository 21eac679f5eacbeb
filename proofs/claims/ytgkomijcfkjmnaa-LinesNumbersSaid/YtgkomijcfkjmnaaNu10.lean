/-
  Chapter 10: the walk of LinesNumbers: it returns true, and nothing that was there has turned.
-/
import Derived.Test.YtgkomijcfkjmnaaPl10
import Derived.OwnWalk
import Derived.Deep.AppendLies
namespace Go.Proofs.Ytgkomijcfkjmnaa
open Go.RowKit
set_option linter.unusedVariables false
set_option linter.unusedSimpArgs false

/-- the call number i: what its cells hold -/
def kdN (i : Nat) : Int := (i : Int) % 4
def dN (i : Nat) : Int := (i : Int) % 9 - 1
def upN (i : Nat) : Bool := decide (0 < (i : Int) % 3)
def pN (i : Nat) : Int := (i : Int) % 20
def vN (i : Nat) : Int := (i : Int) * 17
def tN (i : Nat) : Int := wrap64 ((i : Int) * 2 ^ (i % 40))
def cellsN (i : Nat) : List Value := [.int .i64 (kdN i), .int .i64 (dN i), .bool (upN i), .int .u32 (pN i), .int .u32 (vN i), .int .i64 (tN i)]
def allN : Nat → List Value
  | 0 => []
  | k + 1 => allN k ++ cellsN k
theorem allN_len (k : Nat) : (allN k).length = k * 6 := by
  induction k with
  | zero => rfl
  | succ k ih => simp [allN, ih, cellsN]; omega
theorem allN_at (n i : Nat) (h : i < n) (j : Nat) (hj : j < 6) : (allN n)[i * 6 + j]? = (cellsN i)[j]? := by
  induction n with
  | zero => omega
  | succ n ih =>
    have hl := allN_len n
    have hc : (cellsN i).length = 6 := rfl
    by_cases hi : i < n
    · rw [allN, List.getElem?_append_left (by omega)]
      exact ih hi
    · obtain rfl : i = n := by omega
      rw [allN, List.getElem?_append_right (by omega)]
      congr 1
      omega
theorem tN_rng (i : Nat) : -9223372036854775808 ≤ tN i ∧ tN i ≤ 9223372036854775807 := by
  unfold tN
  unfold wrap64
  omega
theorem info_ask : (Try.prog.info? 26).map (fun i => (i.zero, i.size, i.bytes)) = some (some (.agg #[.int .i64 0, .int .i64 0, .bool false, .int .u32 0, .int .u32 0, .int .i64 0]), 6, 40) := by kernel_rfl
theorem asks_made {w : World} {v : Value} {B n : Nat} (hn : 0 < n) (h60 : n ≤ 60) (ho : w.ownsRow B 26 6 v n (allN n)) : ∃ a cap, v = .slice a n cap ∧ Asks w w.heap.size a n := by
  obtain ⟨g, cap, rfl, _, hg⟩ := ho.form hn
  refine ⟨_, _, rfl, fun i hi => ?_⟩
  have hc : ∀ j u, (allN n)[j]? = some u → w.cell? ⟨g, j, none⟩ = some u := fun j u hu => by
    have := World.ownsRow.cells ho (g := g) rfl j u hu
    rwa [Addr.add_lit, Nat.zero_add] at this
  have hz : ∀ j, j < 6 → ∀ u, (cellsN i)[j]? = some u → w.cell? ⟨g, 0 + i * 6 + j, none⟩ = some u := fun j hj u hu => by
    rw [Nat.zero_add]; exact hc _ _ ((allN_at n i hi j hj).trans hu)
  obtain ⟨t0, t1⟩ := tN_rng i
  refine ⟨g, 0, kdN i, dN i, upN i, pN i, vN i, tN i, rfl, hg, hz 0 (by omega) _ rfl, hz 1 (by omega) _ rfl, hz 2 (by omega) _ rfl, hz 3 (by omega) _ rfl, hz 4 (by omega) _ rfl, hz 5 (by omega) _ rfl, ?_, ?_, ?_, ?_, ?_, ?_, t0, t1⟩
  all_goals
    simp only [dN, pN, vN]
    omega

set_option maxRecDepth 100000 in
set_option maxHeartbeats 4000000 in
theorem numbers_walk (w : World) : Calls Try.prog 3 #[] w (RetB (.bool true) w) := by
  obtain ⟨i0, hi0, hi3⟩ := Option.map_eq_some_iff.1 info_ask
  simp only [Prod.mk.injEq] at hi3
  obtain ⟨hz0, hz1, hz2⟩ := hi3
  have HI := Lib.hid hi0
  have HZ0 := Lib.hid hz0
  have HZ1 := Lib.hid hz1
  have HZ2 := Lib.hid hz2
  clear hi0 hz0 hz1 hz2
  go_enter Try.func3, Try.ntmps3
  go_wp2_with fail
  go_loopw [1, 2] (fun v i wr => ∃ k : Nat, k ≤ 60 ∧ i = .int .i64 k ∧ wr.ownsRow w.heap.size 26 6 v k (allN k) ∧ Below w.heap.size w wr) (fun _ i _ => 60 - (intOf i).toNat)
  case atStart => exact ⟨0, by omega, rfl, World.ownsRow_nil _ _ _ _, Below.refl _ _⟩
  case round =>
    obtain ⟨k, hk, rfl, hown, hB⟩ := hrel
    by_cases hlt : k < 60
    · have hsz := hB.size
      have hown2 := hown.alloc (.cells #[.int .i64 ((k : Int) % 4), .int .i64 ((k : Int) % 9 - 1), .bool (decide (0 < (k : Int) % 3)), .int .u32 ((k : Int) % 20), .int .u32 ((k : Int) * 17), .int .i64 (wrap64 ((k : Int) * 2 ^ (k % 40)))] 26)
      go_wp2_with (at_builtin; refine wpList_append_own_at _ rfl (.tmp 7) (.tmp 28) 22 rfl w.heap.size 26 i0 (.agg #[.int .i64 0, .int .i64 0, .bool false, .int .u32 0, .int .u32 0, .int .i64 0]) 6 40 Try.underlying22 HI.out HZ0.out HZ1.out HZ2.out rfl (by decide) _ _ _ rfl hown2 ⟨wr.heap.size, 0, none⟩ 1 1 (cellsN k) rfl rfl (World.news_of_block (heap_alloc_new wr _)) (by intro u hu; simp [cellsN] at hu; rcases hu with rfl | rfl | rfl | rfl | rfl | rfl <;> rfl) (by unfold maxLen; omega) (by omega) (by simp; omega) ?_)
      intro v1 w1 hown1 hgrow1 _ _
      have hB1 : Below w.heap.size w w1 := (hB.alloc hsz _).grown hgrow1 (by simp; omega) (fun q hq => (World.ownsRow.lt hown q hq).1)
      clear hgrow1 hown2 hown hB
      go_wp2_with fail
      go_roundw
      case rel => exact ⟨k + 1, by omega, by go_num, hown1, hB1⟩
      case measure => simp [intOf]; omega
    · have hk60 : 60 ≤ k := by omega
      obtain ⟨a, cap, rfl, hA⟩ := asks_made (by omega) hk hown
      clear hown
      go_wp2_with fail
      refine (plays_walk _ _ _ _ hA (by omega)).mono ?_
      rintro e w2 ⟨rfl, hb2⟩
      go_wp2_with fail
      refine (known_any _).mono ?_
      rintro e w5 ⟨rfl, hb5⟩
      go_wp2
      go_ret
      have hb25 := hb2.trans (hb5.mono hb2.size)
      exact ⟨rfl, hB.trans (hb25.mono hB.size)⟩
end Go.Proofs.Ytgkomijcfkjmnaa
