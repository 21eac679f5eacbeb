/-
  The walks of WheelPlays and WheelNumbers: each returns true, and nothing that was there has turned.
-/
import Derived.Test.YthogmllomlcceaaPl9
namespace Go.Proofs.Ythogmllomlcceaa
open Go.RowKit
set_option linter.unusedVariables false
set_option linter.unusedSimpArgs false
theorem asks_below {w w' : World} {a : Option Addr} {len : Nat} (h : Asks w w.heap.size a len) (hb : Below w.heap.size w w') : Asks w' w'.heap.size a len := by
  intro i hi
  obtain ⟨b, o, kd, d, t, e, hbl, c0, c1, c2, r⟩ := h i hi
  exact ⟨b, o, kd, d, t, e, Nat.lt_of_lt_of_le hbl hb.size, (hb.cell (p := ⟨b, o + i * 3, none⟩) hbl).trans c0, (hb.cell (p := ⟨b, o + i * 3 + 1, none⟩) hbl).trans c1, (hb.cell (p := ⟨b, o + i * 3 + 2, none⟩) hbl).trans c2, r⟩

set_option maxHeartbeats 1000000 in
theorem plays_walk (a : Option Addr) (len cap : Nat) (w : World) (hA : Asks w w.heap.size a len) (hl : len ≤ 9223372036854775807) :
    Calls Try.prog 4 #[.slice a len cap] w (RetB (.bool true) w) := by
  have HA := Lib.hid hA
  clear hA
  go_enter Try.func4, Try.ntmps4
  go_wp2_with fail
  refine (play_any _ _ _ _ _ HA hl).mono ?_
  rintro e w2 ⟨rfl, hb2⟩
  go_wp2_with fail
  refine (play_any _ _ _ _ _ (Lib.hid (asks_below HA.out hb2)) hl).mono ?_
  rintro e w4 ⟨rfl, hb4⟩
  go_wp2_with fail
  refine (known_any _).mono ?_
  rintro e w5 ⟨rfl, hb5⟩
  go_wp2
  go_ret
  have hb24 := hb2.trans (hb4.mono hb2.size)
  exact ⟨rfl, hb24.trans (hb5.mono hb24.size)⟩

/-- the call number i -/
def mkE (i : Nat) : Ev := ⟨((i : Int) % 6), (i : Int) * 5 % 18 - 1, (i : Int) * 7 % 23 - 1⟩
theorem info_ask : (Try.prog.info? 24).map (fun i => (i.zero, i.size, i.bytes)) = some (some (.agg #[.int .i64 0, .int .i64 0, .int .i64 0]), 3, 24) := by kernel_rfl
theorem evs_snoc (k : Nat) : evs ((List.range k).map mkE) ++ (mkE k).cells = evs ((List.range (k + 1)).map mkE) := by
  rw [List.range_succ, List.map_append, evs_append]; simp [evs]
theorem asks_made {w : World} {v : Value} {B n : Nat} (hn : 0 < n) (ho : w.ownsRow B 24 3 v n (evs ((List.range n).map mkE))) : ∃ a cap, v = .slice a n cap ∧ Asks w w.heap.size a n := by
  obtain ⟨g, cap, rfl, _, hg⟩ := ho.form hn
  refine ⟨_, _, rfl, fun i hi => ?_⟩
  have hl : ((List.range n).map mkE).length = n := by simp
  obtain ⟨h0, h1, h2⟩ := evs_at ((List.range n).map mkE) i (by rw [hl]; exact hi)
  have hc : ∀ j u, (evs ((List.range n).map mkE))[j]? = some u → w.cell? ⟨g, j, none⟩ = some u := fun j u hu => by
    have := World.ownsRow.cells ho (g := g) rfl j u hu
    rwa [Addr.add_lit, Nat.zero_add] at this
  have c0 := hc _ _ h0
  have c1 := hc _ _ h1
  have c2 := hc _ _ h2
  simp only [List.getElem_map, List.getElem_range] at c0 c1 c2
  refine ⟨g, 0, _, _, _, rfl, hg, by rw [Nat.zero_add]; exact c0, by rw [Nat.zero_add]; exact c1, by rw [Nat.zero_add]; exact c2, ?_, ?_, ?_, ?_⟩
  all_goals
    simp only [mkE]
    omega

set_option maxRecDepth 100000 in
set_option maxHeartbeats 4000000 in
theorem numbers_walk (w : World) : Calls Try.prog 3 #[] w (RetB (.bool true) w) := by
  obtain ⟨i0, hi0, hi3⟩ := Option.map_eq_some_iff.1 info_ask
  simp only [Prod.mk.injEq] at hi3
  obtain ⟨hz0, hz1, hz2⟩ := hi3
  have HI := Lib.hid hi0
  have HZ0 := Lib.hid hz0
  have HZ1 := Lib.hid hz1
  have HZ2 := Lib.hid hz2
  clear hi0 hz0 hz1 hz2
  go_enter Try.func3, Try.ntmps3
  go_wp2_with fail
  go_loopw [1, 2] (fun v i wr => ∃ k : Nat, k ≤ 78 ∧ i = .int .i64 k ∧ wr.ownsRow w.heap.size 24 3 v k (evs ((List.range k).map mkE)) ∧ Below w.heap.size w wr) (fun _ i _ => 78 - (intOf i).toNat)
  case atStart => exact ⟨0, by omega, rfl, World.ownsRow_nil _ _ _ _, Below.refl _ _⟩
  case round =>
    obtain ⟨k, hk, rfl, hown, hB⟩ := hrel
    by_cases hlt : k < 78
    · have hown2 := hown.alloc (.cells #[.int .i64 ((k : Int) % 6), .int .i64 ((k : Int) * 5 % 18 - 1), .int .i64 ((k : Int) * 7 % 23 - 1)] 24)
      have hsz := hB.size
      go_wp2_with (at_builtin; refine wpList_append_own_at _ rfl (.tmp 7) (.tmp 19) 22 rfl w.heap.size 24 i0 (.agg #[.int .i64 0, .int .i64 0, .int .i64 0]) 3 24 Try.underlying22 HI.out HZ0.out HZ1.out HZ2.out rfl (by decide) _ _ _ rfl hown2 ⟨wr.heap.size, 0, none⟩ 1 1 (mkE k).cells rfl rfl (World.news_of_block (heap_alloc_new wr _)) (by intro u hu; simp [mkE, Ev.cells] at hu; rcases hu with rfl | rfl | rfl <;> rfl) (by unfold maxLen; omega) (by omega) (by simp; omega) ?_)
      intro v1 w1 hown1 hgrow1 _ _
      rw [evs_snoc] at hown1
      have hB1 : Below w.heap.size w w1 := (hB.alloc hsz _).grown hgrow1 (by simp; omega) (fun q hq => (World.ownsRow.lt hown q hq).1)
      clear hgrow1 hown2 hown hB
      go_wp2_with fail
      go_roundw
      case rel => exact ⟨k + 1, by omega, by go_num, hown1, hB1⟩
      case measure => simp [intOf]; omega
    · have hk78 : 78 ≤ k := by omega
      obtain ⟨a, cap, rfl, hA⟩ := asks_made (by omega) hown
      have HA := Lib.hid hA
      clear hA hown
      go_wp2_with fail
      refine (play_any _ _ _ _ _ HA (by omega)).mono ?_
      rintro e w2 ⟨rfl, hb2⟩
      go_wp2_with fail
      refine (play_any _ _ _ _ _ (Lib.hid (asks_below HA.out hb2)) (by omega)).mono ?_
      rintro e w4 ⟨rfl, hb4⟩
      go_wp2_with fail
      refine (known_any _).mono ?_
      rintro e w5 ⟨rfl, hb5⟩
      go_wp2
      go_ret
      have hb24 := hb2.trans (hb4.mono hb2.size)
      have hb25 := hb24.trans (hb5.mono hb24.size)
      exact ⟨rfl, hB.trans (hb25.mono hB.size)⟩
end Go.Proofs.Ythogmllomlcceaa
