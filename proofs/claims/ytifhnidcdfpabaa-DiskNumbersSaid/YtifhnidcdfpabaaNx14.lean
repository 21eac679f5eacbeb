/-
  Chapter 14: lists of calls that are made: their cells, one more, many more; literal lists by their place.
-/
import Derived.Test.YtifhnidcdfpabaaAk14
import Derived.Test.YtifhnidcdfpabaaTk9
import Derived.OwnWalk
import Derived.Deep.AppendLies
namespace Go.Proofs.Ytifhnidcdfpabaa
open Go.RowKit
set_option linter.unusedVariables false
set_option linter.unusedSimpArgs false
/-- five values by their place -/
def vec5 (a b c d e : Value) : Nat → Value
  | 0 => a
  | 1 => b
  | 2 => c
  | 3 => d
  | _ => e
/-- the cells of k calls -/
def cells5 (EL : Nat → Nat → Value) (k : Nat) : List Value := (List.range (k * 5)).map fun q => EL (q / 5) (q % 5)
theorem cells5_len (EL : Nat → Nat → Value) (k : Nat) : (cells5 EL k).length = k * 5 := by simp [cells5]
theorem cells5_at (EL : Nat → Nat → Value) (k i j : Nat) (hi : i < k) (hj : j < 5) : (cells5 EL k)[i * 5 + j]? = some (EL i j) := by
  unfold cells5
  rw [List.getElem?_map, List.getElem?_range (by omega)]
  show some (EL ((i * 5 + j) / 5) ((i * 5 + j) % 5)) = _
  rw [show (i * 5 + j) / 5 = i by omega, show (i * 5 + j) % 5 = j by omega]
theorem cells5_snoc (EL : Nat → Nat → Value) (k : Nat) (a b c d e : Value) : cells5 EL k ++ [a, b, c, d, e] = cells5 (fun i => if i = k then vec5 a b c d e else EL i) (k + 1) := by
  apply List.ext_getElem?
  intro q
  by_cases h1 : q < k * 5
  · rw [List.getElem?_append_left (by rw [cells5_len]; exact h1)]
    have e1 := cells5_at EL k (q / 5) (q % 5) (by omega) (by omega)
    have e2 := cells5_at (fun i => if i = k then vec5 a b c d e else EL i) (k + 1) (q / 5) (q % 5) (by omega) (by omega)
    rw [show q / 5 * 5 + q % 5 = q by omega] at e1 e2
    rw [e1, e2]
    show _ = some ((if q / 5 = k then vec5 a b c d e else EL (q / 5)) (q % 5))
    rw [if_neg (by omega)]
  · rw [List.getElem?_append_right (by rw [cells5_len]; omega), cells5_len]
    by_cases h2 : q < (k + 1) * 5
    · have e2 := cells5_at (fun i => if i = k then vec5 a b c d e else EL i) (k + 1) (q / 5) (q % 5) (by omega) (by omega)
      rw [show q / 5 * 5 + q % 5 = q by omega] at e2
      rw [e2]
      show _ = some ((if q / 5 = k then vec5 a b c d e else EL (q / 5)) (q % 5))
      rw [if_pos (by omega)]
      have h6 : q - k * 5 = 0 ∨ q - k * 5 = 1 ∨ q - k * 5 = 2 ∨ q - k * 5 = 3 ∨ q - k * 5 = 4 := by omega
      have h7 : q % 5 = q - k * 5 := by omega
      rw [h7]
      rcases h6 with h | h | h | h | h <;> rw [h] <;> rfl
    · rw [List.getElem?_eq_none (by simp; omega), List.getElem?_eq_none (by rw [cells5_len]; omega)]
/-- the i-th call that was made -/
def OkE (E : Nat → Value) : Prop :=
  ∃ (kd kk y by_ bb : Int), E = vec5 (.int .i64 kd) (.int .i64 kk) (.int .u32 y) (.int .i64 by_) (.int .u8 bb) ∧
    -9223372036854775808 ≤ kk ∧ kk ≤ 9223372036854775807 ∧ 0 ≤ y ∧ y < 4294967296 ∧ -9223372036854775808 ≤ by_ ∧ by_ ≤ 9223372036854775807 ∧ 0 ≤ bb ∧ bb < 256
theorem ok_snoc {EL : Nat → Nat → Value} {k : Nat} {E : Nat → Value} (h : ∀ i, i < k → OkE (EL i)) (hE : OkE E) : ∀ i, i < k + 1 → OkE ((fun i => if i = k then E else EL i) i) := fun i hi => by
  show OkE (if i = k then E else EL i)
  by_cases e : i = k
  · rw [if_pos e]; exact hE
  · rw [if_neg e]; exact h i (by omega)
theorem info_ask : (Try.prog.info? 26).map (fun i => (i.zero, i.size, i.bytes)) = some (some (.agg #[.int .i64 0, .int .i64 0, .int .u32 0, .int .i64 0, .int .u8 0]), 5, 40) := by kernel_rfl
theorem asks_made {w : World} {v : Value} {B n : Nat} {EL : Nat → Nat → Value} (hn : 0 < n) (ho : w.ownsRow B 26 5 v n (cells5 EL n)) (hE : ∀ i, i < n → OkE (EL i)) : ∃ a cap, v = .slice a n cap ∧ Asks w w.heap.size a n := by
  obtain ⟨g, cap, rfl, _, hg⟩ := ho.form hn
  refine ⟨_, _, rfl, fun i hi => ?_⟩
  obtain ⟨kd, kk, y, by_, bb, he, r⟩ := hE i hi
  have hc : ∀ j, j < 5 → w.cell? ⟨g, 0 + i * 5 + j, none⟩ = some (EL i j) := fun j hj => by
    rw [Nat.zero_add, ho.cellAt (i * 5 + j) (by omega), cells5_at EL n i j hi hj]
  refine ⟨g, 0, kd, kk, y, by_, bb, rfl, hg, ?_, ?_, ?_, ?_, ?_, r⟩
  · rw [show 0 + i * 5 = 0 + i * 5 + 0 from rfl, hc 0 (by omega), he]; rfl
  · rw [hc 1 (by omega), he]; rfl
  · rw [hc 2 (by omega), he]; rfl
  · rw [hc 3 (by omega), he]; rfl
  · rw [hc 4 (by omega), he]; rfl
theorem elder_at (W : World) (o : Obj) {x : Addr} {u : Value} (h : W.cell? x = some u) : (W.alloc o).cell? x = some u := (((Below.refl _ W).alloc (Nat.le_refl _) o).cell (p := x) (block_lt_of_cell h)).trans h
theorem own_below {w w' : World} {base : Nat} {e : TypeId} {size n : Nat} {v : Value} {xs : List Value} (h : w.ownsRow base e size v n xs) (hb : Below w.heap.size w w') : w'.ownsRow base e size v n xs := by
  refine ⟨h.1, ?_⟩
  rcases h.2 with h2 | ⟨g, cap, cur, rfl, hbg, hh, r⟩
  · exact .inl h2
  · exact .inr ⟨g, cap, cur, rfl, hbg, (hb.block g (Array.getElem?_eq_some_iff.1 hh).1).trans hh, r⟩
/-- calls' cells behind the list's -/
theorem app_many {w0 wr W : World} {v : Value} {k n X : Nat} {EL : Nat → Nat → Value} (cs : Array Value) (hk : k ≤ 1000) (hn : n ≤ 100) (hl : cs.toList.length = n * 5) (h1 : ∀ u ∈ cs.toList, u.oneCell' = true) (hown : wr.ownsRow w0.heap.size 26 5 v k (cells5 EL k)) (hb : Below wr.heap.size wr W) (hX : X = W.heap.size) (hB : Below w0.heap.size w0 wr) :
    ∃ v' w', (Builtin.append_ #[22, 22] 22 #[v, .slice (some ⟨X, 0, none⟩) n n]).run Try.prog (W.alloc (.cells cs 26)) = .ok v' w' ∧ w'.ownsRow w0.heap.size 26 5 v' (k + n) (cells5 EL k ++ cs.toList) ∧ Below w0.heap.size w0 w' := by
  subst hX
  obtain ⟨i0, hi, hi3⟩ := Option.map_eq_some_iff.1 info_ask
  simp only [Prod.mk.injEq] at hi3
  obtain ⟨hz0, hz1, hz2⟩ := hi3
  have hs := hB.size
  have hs2 := hb.size
  have hB2 : Below w0.heap.size w0 W := hB.trans (hb.mono hs)
  have hown2 : (W.alloc (.cells cs 26)).ownsRow w0.heap.size 26 5 v k (cells5 EL k) := World.ownsRow.alloc (own_below hown hb) _
  obtain ⟨v', w', hr, h1, h2, _, h4⟩ := run_append_own_at (P := Try.prog) _ w0.heap.size 22 22 26 i0 _ 5 40 Try.underlying22 hi hz0 hz1 hz2 rfl (by decide) v k (cells5 EL k) hown2 ⟨W.heap.size, 0, none⟩ n n cs.toList hl
    (World.news_of_block (heap_alloc_new W _)) h1 (by unfold maxLen; omega) (by omega) (by simp; omega)
  exact ⟨v', w', hr, h1, (hB2.alloc (by omega) _).grown h2 (by simp; omega) (fun q hq => (World.ownsRow.lt hown q hq).1)⟩
theorem app_ask {w0 wr W : World} {v : Value} {k X : Nat} {EL : Nat → Nat → Value} (kd kk y by_ bb : Int) (hk : k ≤ 1000) (hown : wr.ownsRow w0.heap.size 26 5 v k (cells5 EL k)) (hb : Below wr.heap.size wr W) (hX : X = W.heap.size) (hB : Below w0.heap.size w0 wr) :
    ∃ v' w', (Builtin.append_ #[22, 22] 22 #[v, .slice (some ⟨X, 0, none⟩) 1 1]).run Try.prog (W.alloc (.cells #[.int .i64 kd, .int .i64 kk, .int .u32 y, .int .i64 by_, .int .u8 bb] 26)) = .ok v' w' ∧ w'.ownsRow w0.heap.size 26 5 v' (k + 1) (cells5 (fun i => if i = k then vec5 (.int .i64 kd) (.int .i64 kk) (.int .u32 y) (.int .i64 by_) (.int .u8 bb) else EL i) (k + 1)) ∧ Below w0.heap.size w0 w' := by
  obtain ⟨v', w', h1, h2, h3⟩ := app_many #[.int .i64 kd, .int .i64 kk, .int .u32 y, .int .i64 by_, .int .u8 bb] hk (n := 1) (by omega) rfl (by intro u hu; simp at hu; rcases hu with rfl | rfl | rfl | rfl | rfl <;> rfl) hown hb hX hB
  refine ⟨v', w', h1, ?_, h3⟩
  rw [← cells5_snoc]
  exact h2
end Go.Proofs.Ytifhnidcdfpabaa
