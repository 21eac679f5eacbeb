/-
  Chapter 8: the law's own functions: known (its runs), same (both tell the same of an address, and of the mode).
-/
import Derived.Test.YtecddcbkgelcmaaLi8
namespace Go.Proofs.Ytecddcbkgelcmaa
open Go.RowKit
set_option linter.unusedVariables false
theorem kn_s1 : segF freshF 2147484672 4 false = (1024, -1, false) := by decide +kernel
theorem kn_s2 : segF freshF 2 4 true = (0, 5, false) := by decide +kernel
theorem kn_m : modeF freshF = 0 := by decide +kernel
theorem seg_as {s : St} {va n a b : Int} {st c : Bool} (h : segF s va n st = (a, b, c)) : segV s va n st = .tuple #[.int .u32 a, .int .i64 b, .bool c] := by unfold segV; rw [h]
set_option maxHeartbeats 1000000 in
theorem known_any (w : World) : Calls Try.prog 10 #[] w (RetB (.bool true) w) := by
  go_enter Try.func10, Try.ntmps10
  go_wp2_with fail
  refine (fresh_any w).mono ?_
  rintro e w1 ⟨rfl, b1⟩
  go_wp2_with (with_reducible refine wpList_allocSt ?_)
  intro g w2 l2 h2 f2
  have ok := St.Ok.of_fresh
  go_wp2_with (refine wpList_storeSt rfl rfl h2 ok ?_)
  intro w3 t3
  have q1 := b1.size
  have hg : w.heap.size ≤ g := by omega
  have F3 : Fr (New w.heap.size) w w3 := ((Fr.of_below (S := New w.heap.size) b1).trans (f2.new (fun _ x => x.elim))).trans (t3.fr.new (by rintro k rfl; exact hg))
  have h3 := t3.at_
  clear h2 f2 t3 b1 l2 q1
  go_wp2_with fail
  refine (segfind_any 2147484672 4 false h3 ⟨by decide, by decide⟩).mono ?_
  rintro e w4 ⟨rfl, b4⟩
  rw [seg_as kn_s1]
  have h4 := h3.below b4
  have F4 := F3.trans (Fr.of_below (S := New w.heap.size) b4)
  clear h3 b4
  go_wp2_with fail
  refine (segfind_any 2 4 true h4 ⟨by decide, by decide⟩).mono ?_
  rintro e w5 ⟨rfl, b5⟩
  rw [seg_as kn_s2]
  have h5 := h4.below b5
  have F5 := F4.trans (Fr.of_below (S := New w.heap.size) b5)
  clear h4 b5
  go_wp2_with fail
  refine (mode_any h5).mono ?_
  rintro e w6 ⟨rfl, rfl⟩
  rw [kn_m]
  go_wp2_with fail
  go_ret
  exact ⟨rfl, F5.newB⟩
section
variable {w : World} {g : Nat} {s : St}
set_option maxRecDepth 100000 in
set_option maxHeartbeats 2000000 in
theorem same_any (va n : Int) (h : StAt w g s) (hv : W32 va) :
    Calls Try.prog 9 #[.pointer (some ⟨g, 0, none⟩), .int .u32 va, .int .i64 n] w (RetB (.bool true) w) := by
  have HV := Lib.hid hv
  clear hv
  go_enter Try.func9, Try.ntmps9
  go_wp2_with fail
  have b0 := (Below.refl w.heap.size w).alloc (Nat.le_refl _) (.cells #[.bool false, .bool true] 4)
  have h0 := h.below b0
  have hq := heap_alloc_last w (.cells #[.bool false, .bool true] 4)
  have q0 : (w.alloc (.cells #[.bool false, .bool true] 4)).cell? ⟨w.heap.size, 0, none⟩ = some (.bool false) := cell_of_row _ _ 0 _ _ _ hq
  have q1 : (w.alloc (.cells #[.bool false, .bool true] 4)).cell? ⟨w.heap.size, 1, none⟩ = some (.bool true) := cell_of_row _ _ 1 _ _ _ hq
  clear hq h
  generalize w.alloc (.cells #[.bool false, .bool true] 4) = W0 at b0 h0 q0 q1 ⊢
  go_loopw [17] (fun i wr => ∃ k : Nat, k ≤ 2 ∧ i = .int .i64 k ∧ Bl W0 wr) (fun i _ => 2 - (intOf i).toNat)
  case atStart => exact ⟨0, by omega, by go_num, Below.refl _ _⟩
  case round =>
    obtain ⟨k, hk, rfl, hb⟩ := hrel
    have h1 := h0.below hb
    have e0 := hb.cell q0
    have e1 := hb.cell q1
    clear q0 q1
    have k3 : k = 0 ∨ k = 1 ∨ k = 2 := by omega
    rcases k3 with rfl | rfl | rfl
    · go_wp2_with fail
      refine (segfind_any va n false h1 HV.out).mono ?_
      rintro e w1 ⟨rfl, b1⟩
      unfold segV
      go_wp2_with fail
      refine (lies_any va n false (h1.below b1) HV.out).mono ?_
      rintro e w2 ⟨rfl, b2⟩
      unfold segV
      go_wp2_with fail
      go_roundw
      case rel => exact ⟨1, by omega, rfl, (hb.step b1).step b2⟩
      case measure => simp [intOf]
    · go_wp2_with fail
      refine (segfind_any va n true h1 HV.out).mono ?_
      rintro e w1 ⟨rfl, b1⟩
      unfold segV
      go_wp2_with fail
      refine (lies_any va n true (h1.below b1) HV.out).mono ?_
      rintro e w2 ⟨rfl, b2⟩
      unfold segV
      go_wp2_with fail
      go_roundw
      case rel => exact ⟨2, by omega, rfl, (hb.step b1).step b2⟩
      case measure => simp [intOf]
    · go_wp2_with fail
      refine (mode_any h1).mono ?_
      rintro e w3 ⟨rfl, rfl⟩
      go_wp2_with fail
      refine (rmode_any h1).mono ?_
      rintro e w3 ⟨rfl, rfl⟩
      go_wp2_with fail
      go_ret
      exact ⟨rfl, b0.trans (hb.mono b0.size)⟩
end
end Go.Proofs.Ytecddcbkgelcmaa
