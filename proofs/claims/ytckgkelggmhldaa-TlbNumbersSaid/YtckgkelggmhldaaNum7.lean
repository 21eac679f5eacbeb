/-
  Chapter 7: the walk of the closed sentence TlbNumbers.
-/
import Derived.Test.YtckgkelggmhldaaDo7
namespace Go.Proofs.Ytckgkelggmhldaa
open Go.RowKit
set_option linter.unusedVariables false
def kinds7 : List Int := [4, 4, 0, 4, 3, 2, 1, 4]
theorem kind_at (w : World) (j : Nat) (hj : j < 8) : ∃ v : Int, (w.alloc (.cells #[.int .i64 4, .int .i64 4, .int .i64 0, .int .i64 4, .int .i64 3, .int .i64 2, .int .i64 1, .int .i64 4] 3)).cell? ⟨w.heap.size, j, none⟩ = some (.int .i64 v) := by
  have h := heap_alloc_last w (.cells #[.int .i64 4, .int .i64 4, .int .i64 0, .int .i64 4, .int .i64 3, .int .i64 2, .int .i64 1, .int .i64 4] 3)
  have : j = 0 ∨ j = 1 ∨ j = 2 ∨ j = 3 ∨ j = 4 ∨ j = 5 ∨ j = 6 ∨ j = 7 := by omega
  rcases this with rfl | rfl | rfl | rfl | rfl | rfl | rfl | rfl
  all_goals exact ⟨_, cell_of_row _ _ _ _ _ _ h⟩
set_option maxRecDepth 100000 in
set_option maxHeartbeats 2000000 in
theorem numbers_walk (w : World) : Calls Try.prog 3 #[] w (RetB (.bool true) w) := by
  go_enter Try.func3, Try.ntmps3
  go_wp2_with fail
  refine (fresh_any w).mono ?_
  rintro e w1 ⟨rfl, b1⟩
  have ok := St.Ok.of_fresh
  have z1 := b1.size
  go_wp2_with (with_reducible refine wpList_allocSt ?_)
  intro g w2 l2 h2 f2
  go_wp2_with ((with_reducible refine wpList_storeSt ?_ ?_ h2 ok ?_); rfl; rfl)
  intro w3 t3
  have TA := t3.at_
  go_wp2_with (first | ((with_reducible refine wpList_loadSt ?_ TA ?_); rfl) | (with_reducible refine wpList_allocSt ?_))
  intro m w4 l4 h4 f4
  go_wp2_with ((with_reducible refine wpList_storeSt ?_ ?_ h4 ok ?_); rfl; rfl)
  intro w5 t5
  have q1 := t3.at_.lt
  have q2 := t3.size
  have hT : Two w5 g m freshF := ⟨(t3.at_.fr f4 id).fr t5.fr (by omega), t5.at_, by omega⟩
  have hg : w.heap.size ≤ g := by omega
  have hm : w.heap.size ≤ m := by have := f2.size; omega
  have g5 := ((((Fr.of_below (S := New w.heap.size) b1).trans (f2.new (fun _ x => x.elim))).trans (t3.fr.new (by rintro k rfl; exact hg))).trans (f4.new (fun _ x => x.elim))).trans (t5.fr.new (by rintro k rfl; exact hm))
  clear q1 q2 t3 t5 h2 h4 f2 f4 l2 l4 z1 b1 TA
  go_wp2_with fail
  go_loopw [3] (fun i wr => ∃ (k : Nat) (s : St), k ≤ 120 ∧ i = .int .i64 k ∧ Two wr g m s ∧ Fr (New w.heap.size) w wr) (fun i _ => 120 - (intOf i).toNat)
  case atStart => exact ⟨0, freshF, by omega, by go_num, hT, g5⟩
  case round =>
    clear hT g5
    obtain ⟨k, s, hk, rfl, hT, hB⟩ := hrel
    by_cases hlt : k < 120
    · have hlt' : (k : Int) < 120 := by omega
      obtain ⟨kd, hkd⟩ := kind_at wr (k % 8) (by omega)
      go_wp2_with fail
      refine (do_any _ _ _ _ (hT.fr (((Fr.refl (fun _ => False) wr).alloc _).alloc _) id id) (w_or _ _)).mono ?_
      rintro e w6 ⟨rfl, ⟨s6, hT6⟩, f6⟩
      have hB6 := ((hB.alloc _).alloc _).trans (f6.new (own2_new hg hm))
      clear hkd hT hB f6
      go_wp2_with fail
      go_loopw [5] (fun i wq => ∃ v : Nat, v ≤ 9726 ∧ i = .int .u32 v ∧ Two wq g m s6 ∧ Fr (New w.heap.size) w wq) (fun i _ => 9727 - (intOf i).toNat)
      case atStart => exact ⟨0, by omega, by go_num, hT6, hB6⟩
      case round =>
        clear hT6 hB6
        obtain ⟨v, hv, rfl, hT, hB⟩ := hrel
        by_cases hl : v < 9216
        · have hl' : (v : Int) < 9216 := by omega
          go_wp2_with fail
          refine (same_any v hT ⟨by omega, by omega⟩).mono ?_
          rintro e w7 ⟨rfl, b7⟩
          go_wp2_with fail
          go_roundw
          case rel => exact ⟨v + 511, by omega, by go_num, hT.below b7, hB.trans (Fr.of_below (S := New w.heap.size) b7)⟩
          case measure => simp [intOf]; omega
        · have e9 : decide ((v : Int) < 9216) = false := by simp; omega
          go_wp2_with fail
          go_roundw
          case rel => exact ⟨k + 1, s6, by omega, by go_num, hT, hB⟩
          case measure => simp [intOf]; omega
    · have e8 : decide ((k : Int) < 120) = false := by simp; omega
      go_wp2_with fail
      refine (known_any _).mono ?_
      rintro e w6 ⟨rfl, b6⟩
      go_wp2_with fail
      go_ret
      exact ⟨rfl, (hB.trans (Fr.of_below (S := New w.heap.size) b6)).newB⟩
end Go.Proofs.Ytckgkelggmhldaa
