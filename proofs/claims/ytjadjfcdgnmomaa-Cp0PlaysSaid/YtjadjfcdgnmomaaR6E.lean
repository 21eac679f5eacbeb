/-
  Chapter 6: the document's own Enter (pianolaref6).
-/
import Derived.Test.YtjadjfcdgnmomaaR6
namespace Go.Proofs.Ytjadjfcdgnmomaa
open Go.RowKit
set_option linter.unusedVariables false
section
variable {w : World} {g : Nat} {s : St}
/-- behind the code and EXL are noted: the place -/
theorem or_code (c x : Int) : bits .or .u32 (bits .andNot .u32 c 124) (bits .and .u32 x 124) = pu c 124 x := rfl

set_option maxHeartbeats 1000000 in
set_option maxRecDepth 100000 in
theorem renter_in_false (code : Int) (h : StAt w g s) (HX : Hid (inX s = true)) (t0 : (bits .and .u32 (s.C 12) 2 != 0) = true) :
    Calls Try.prog 20 #[.pointer (some ⟨g, 0, none⟩), .int .i64 code, .bool false] w (RetS (.tuple #[]) w g (enterF s code false)) := by
  have cx := h.c12
  go_enter Try.func20, Try.ntmps20
  have c130 : w.cell? ⟨g, 52, none⟩ = some (.int .u32 (s.C 13)) := h.c13
  have c13f0 : w.frozen? ⟨g, 52, none⟩ = false := h.frozenAt 52
  have c120 : w.cell? ⟨g, 51, none⟩ = some (.int .u32 (s.C 12)) := h.c12
  have c12f0 : w.frozen? ⟨g, 51, none⟩ = false := h.frozenAt 51
  go_wp2_with fail
  go_region
  rw [or_code]
  have T1 : Turned w (w.setCell ⟨g, 52, none⟩ (.int .u32 (pu (s.C 13) 124 (code % 4294967296 * 4 % 4294967296)))).drew g (s.setC 13 (pu (s.C 13) 124 (code % 4294967296 * 4 % 4294967296))) := ((Turned.refl h).setC 13 (by omega) (pu (s.C 13) 124 (code % 4294967296 * 4 % 4294967296)) (w_pu _ _ _)).drew
  generalize (w.setCell ⟨g, 52, none⟩ (.int .u32 (pu (s.C 13) 124 (code % 4294967296 * 4 % 4294967296)))).drew = W1 at T1 ⊢
  clear c130 c13f0 c120 c12f0
  have c121 : W1.cell? ⟨g, 51, none⟩ = some (.int .u32 (s.C 12)) := T1.at_.c12
  have c12f1 : W1.frozen? ⟨g, 51, none⟩ = false := T1.at_.frozenAt 51
  go_wp2_with fail
  go_region
  rw [pu_set]
  have T2 : Turned w (W1.setCell ⟨g, 51, none⟩ (.int .u32 (pu (s.C 12) 2 2))).drew g ((s.setC 13 (pu (s.C 13) 124 (code % 4294967296 * 4 % 4294967296))).setC 12 (pu (s.C 12) 2 2)) := (T1.setC 12 (by omega) (pu (s.C 12) 2 2) (w_pu _ _ _)).drew
  generalize (W1.setCell ⟨g, 51, none⟩ (.int .u32 (pu (s.C 12) 2 2))).drew = W2 at T2 ⊢
  clear c121 c12f1
  have cp2 := T2.at_.cPC
  have cn2 := T2.at_.cNext
  have cs2 := T2.at_.cSlot
  have fp2 := T2.at_.frozenAt 34
  have fn2 := T2.at_.frozenAt 35
  have fs2 := T2.at_.frozenAt 36
  go_wp2_with fail
  go_end0
  refine ⟨rfl, (((T2.setPC 2147484032 ⟨by omega, by omega⟩).setNext 2147484036 ⟨by omega, by omega⟩).setSlot false).to ?_⟩
  unfold enterF
  rw [HX.out]
  rfl

set_option maxHeartbeats 1000000 in
set_option maxRecDepth 100000 in
theorem renter_in_true (code : Int) (h : StAt w g s) (HX : Hid (inX s = true)) (t0 : (bits .and .u32 (s.C 12) 2 != 0) = true) :
    Calls Try.prog 20 #[.pointer (some ⟨g, 0, none⟩), .int .i64 code, .bool true] w (RetS (.tuple #[]) w g (enterF s code true)) := by
  have cx := h.c12
  go_enter Try.func20, Try.ntmps20
  have c130 : w.cell? ⟨g, 52, none⟩ = some (.int .u32 (s.C 13)) := h.c13
  have c13f0 : w.frozen? ⟨g, 52, none⟩ = false := h.frozenAt 52
  have c120 : w.cell? ⟨g, 51, none⟩ = some (.int .u32 (s.C 12)) := h.c12
  have c12f0 : w.frozen? ⟨g, 51, none⟩ = false := h.frozenAt 51
  go_wp2_with fail
  go_region
  rw [or_code]
  have T1 : Turned w (w.setCell ⟨g, 52, none⟩ (.int .u32 (pu (s.C 13) 124 (code % 4294967296 * 4 % 4294967296)))).drew g (s.setC 13 (pu (s.C 13) 124 (code % 4294967296 * 4 % 4294967296))) := ((Turned.refl h).setC 13 (by omega) (pu (s.C 13) 124 (code % 4294967296 * 4 % 4294967296)) (w_pu _ _ _)).drew
  generalize (w.setCell ⟨g, 52, none⟩ (.int .u32 (pu (s.C 13) 124 (code % 4294967296 * 4 % 4294967296)))).drew = W1 at T1 ⊢
  clear c130 c13f0 c120 c12f0
  have c121 : W1.cell? ⟨g, 51, none⟩ = some (.int .u32 (s.C 12)) := T1.at_.c12
  have c12f1 : W1.frozen? ⟨g, 51, none⟩ = false := T1.at_.frozenAt 51
  go_wp2_with fail
  go_region
  rw [pu_set]
  have T2 : Turned w (W1.setCell ⟨g, 51, none⟩ (.int .u32 (pu (s.C 12) 2 2))).drew g ((s.setC 13 (pu (s.C 13) 124 (code % 4294967296 * 4 % 4294967296))).setC 12 (pu (s.C 12) 2 2)) := (T1.setC 12 (by omega) (pu (s.C 12) 2 2) (w_pu _ _ _)).drew
  generalize (W1.setCell ⟨g, 51, none⟩ (.int .u32 (pu (s.C 12) 2 2))).drew = W2 at T2 ⊢
  clear c121 c12f1
  have cp2 := T2.at_.cPC
  have cn2 := T2.at_.cNext
  have cs2 := T2.at_.cSlot
  have fp2 := T2.at_.frozenAt 34
  have fn2 := T2.at_.frozenAt 35
  have fs2 := T2.at_.frozenAt 36
  go_wp2_with fail
  go_end0
  refine ⟨rfl, (((T2.setPC 2147484032 ⟨by omega, by omega⟩).setNext 2147484036 ⟨by omega, by omega⟩).setSlot false).to ?_⟩
  unfold enterF
  rw [HX.out]
  rfl

set_option maxHeartbeats 1000000 in
set_option maxRecDepth 100000 in
theorem renter_out_false_false (code : Int) (h : StAt w g s) (HX : Hid (inX s = false)) (HS : Hid (s.Slot = false)) (t0 : (bits .and .u32 (s.C 12) 2 != 0) = false) :
    Calls Try.prog 20 #[.pointer (some ⟨g, 0, none⟩), .int .i64 code, .bool false] w (RetS (.tuple #[]) w g (enterF s code false)) := by
  have cx := h.c12
  go_enter Try.func20, Try.ntmps20
  have c140 : w.cell? ⟨g, 53, none⟩ = some (.int .u32 (s.C 14)) := h.c14
  have c14f0 : w.frozen? ⟨g, 53, none⟩ = false := h.frozenAt 53
  have cpp0 := h.cPC
  go_wp2_with fail
  go_region
  have T1 : Turned w (w.setCell ⟨g, 53, none⟩ (.int .u32 (s.PC))).drew g (s.setC 14 s.PC) := ((Turned.refl h).setC 14 (by omega) (s.PC) (h.ok.pc)).drew
  generalize (w.setCell ⟨g, 53, none⟩ (.int .u32 (s.PC))).drew = W1 at T1 ⊢
  clear c140 c14f0 cpp0 cx
  have c131 : W1.cell? ⟨g, 52, none⟩ = some (.int .u32 (s.C 13)) := T1.at_.c13
  have c13f1 : W1.frozen? ⟨g, 52, none⟩ = false := T1.at_.frozenAt 52
  go_wp2_with fail
  go_region
  rw [pu_clear]
  have T2 : Turned w (W1.setCell ⟨g, 52, none⟩ (.int .u32 (pu (s.C 13) 2147483648 0))).drew g ((s.setC 14 s.PC).setC 13 (pu (s.C 13) 2147483648 0)) := (T1.setC 13 (by omega) (pu (s.C 13) 2147483648 0) (w_pu _ _ _)).drew
  generalize (W1.setCell ⟨g, 52, none⟩ (.int .u32 (pu (s.C 13) 2147483648 0))).drew = W2 at T2 ⊢
  clear c131 c13f1
  have cs2 : W2.cell? ⟨g, 36, none⟩ = some (.bool false) := T2.at_.cSlot.trans (by show some (Value.bool s.Slot) = _; rw [HS.out])
  have c132 : W2.cell? ⟨g, 52, none⟩ = some (.int .u32 (pu (s.C 13) 2147483648 0)) := T2.at_.c13
  have c13f2 : W2.frozen? ⟨g, 52, none⟩ = false := T2.at_.frozenAt 52
  have c122 : W2.cell? ⟨g, 51, none⟩ = some (.int .u32 (s.C 12)) := T2.at_.c12
  have c12f2 : W2.frozen? ⟨g, 51, none⟩ = false := T2.at_.frozenAt 51
  go_wp2_with fail
  go_region
  rw [or_code]
  have T3 : Turned w (W2.setCell ⟨g, 52, none⟩ (.int .u32 (pu (pu (s.C 13) 2147483648 0) 124 (code % 4294967296 * 4 % 4294967296)))).drew g (((s.setC 14 s.PC).setC 13 (pu (s.C 13) 2147483648 0)).setC 13 (pu (pu (s.C 13) 2147483648 0) 124 (code % 4294967296 * 4 % 4294967296))) := (T2.setC 13 (by omega) (pu (pu (s.C 13) 2147483648 0) 124 (code % 4294967296 * 4 % 4294967296)) (w_pu _ _ _)).drew
  generalize (W2.setCell ⟨g, 52, none⟩ (.int .u32 (pu (pu (s.C 13) 2147483648 0) 124 (code % 4294967296 * 4 % 4294967296)))).drew = W3 at T3 ⊢
  clear cs2 c132 c13f2 c122 c12f2
  have c123 : W3.cell? ⟨g, 51, none⟩ = some (.int .u32 (s.C 12)) := T3.at_.c12
  have c12f3 : W3.frozen? ⟨g, 51, none⟩ = false := T3.at_.frozenAt 51
  go_wp2_with fail
  go_region
  rw [pu_set]
  have T4 : Turned w (W3.setCell ⟨g, 51, none⟩ (.int .u32 (pu (s.C 12) 2 2))).drew g ((((s.setC 14 s.PC).setC 13 (pu (s.C 13) 2147483648 0)).setC 13 (pu (pu (s.C 13) 2147483648 0) 124 (code % 4294967296 * 4 % 4294967296))).setC 12 (pu (s.C 12) 2 2)) := (T3.setC 12 (by omega) (pu (s.C 12) 2 2) (w_pu _ _ _)).drew
  generalize (W3.setCell ⟨g, 51, none⟩ (.int .u32 (pu (s.C 12) 2 2))).drew = W4 at T4 ⊢
  clear c123 c12f3
  have cp4 := T4.at_.cPC
  have cn4 := T4.at_.cNext
  have cs4 := T4.at_.cSlot
  have fp4 := T4.at_.frozenAt 34
  have fn4 := T4.at_.frozenAt 35
  have fs4 := T4.at_.frozenAt 36
  go_wp2_with fail
  go_end0
  refine ⟨rfl, (((T4.setPC 2147484032 ⟨by omega, by omega⟩).setNext 2147484036 ⟨by omega, by omega⟩).setSlot false).to ?_⟩
  unfold enterF keepF
  rw [HX.out, HS.out]
  rfl

set_option maxHeartbeats 1000000 in
set_option maxRecDepth 100000 in
theorem renter_out_false_true (code : Int) (h : StAt w g s) (HX : Hid (inX s = false)) (HS : Hid (s.Slot = false)) (t0 : (bits .and .u32 (s.C 12) 2 != 0) = false) :
    Calls Try.prog 20 #[.pointer (some ⟨g, 0, none⟩), .int .i64 code, .bool true] w (RetS (.tuple #[]) w g (enterF s code true)) := by
  have cx := h.c12
  go_enter Try.func20, Try.ntmps20
  have c140 : w.cell? ⟨g, 53, none⟩ = some (.int .u32 (s.C 14)) := h.c14
  have c14f0 : w.frozen? ⟨g, 53, none⟩ = false := h.frozenAt 53
  have cpp0 := h.cPC
  go_wp2_with fail
  go_region
  have T1 : Turned w (w.setCell ⟨g, 53, none⟩ (.int .u32 (s.PC))).drew g (s.setC 14 s.PC) := ((Turned.refl h).setC 14 (by omega) (s.PC) (h.ok.pc)).drew
  generalize (w.setCell ⟨g, 53, none⟩ (.int .u32 (s.PC))).drew = W1 at T1 ⊢
  clear c140 c14f0 cpp0 cx
  have c131 : W1.cell? ⟨g, 52, none⟩ = some (.int .u32 (s.C 13)) := T1.at_.c13
  have c13f1 : W1.frozen? ⟨g, 52, none⟩ = false := T1.at_.frozenAt 52
  go_wp2_with fail
  go_region
  rw [pu_clear]
  have T2 : Turned w (W1.setCell ⟨g, 52, none⟩ (.int .u32 (pu (s.C 13) 2147483648 0))).drew g ((s.setC 14 s.PC).setC 13 (pu (s.C 13) 2147483648 0)) := (T1.setC 13 (by omega) (pu (s.C 13) 2147483648 0) (w_pu _ _ _)).drew
  generalize (W1.setCell ⟨g, 52, none⟩ (.int .u32 (pu (s.C 13) 2147483648 0))).drew = W2 at T2 ⊢
  clear c131 c13f1
  have cs2 : W2.cell? ⟨g, 36, none⟩ = some (.bool false) := T2.at_.cSlot.trans (by show some (Value.bool s.Slot) = _; rw [HS.out])
  have c132 : W2.cell? ⟨g, 52, none⟩ = some (.int .u32 (pu (s.C 13) 2147483648 0)) := T2.at_.c13
  have c13f2 : W2.frozen? ⟨g, 52, none⟩ = false := T2.at_.frozenAt 52
  have c122 : W2.cell? ⟨g, 51, none⟩ = some (.int .u32 (s.C 12)) := T2.at_.c12
  have c12f2 : W2.frozen? ⟨g, 51, none⟩ = false := T2.at_.frozenAt 51
  go_wp2_with fail
  go_region
  rw [or_code]
  have T3 : Turned w (W2.setCell ⟨g, 52, none⟩ (.int .u32 (pu (pu (s.C 13) 2147483648 0) 124 (code % 4294967296 * 4 % 4294967296)))).drew g (((s.setC 14 s.PC).setC 13 (pu (s.C 13) 2147483648 0)).setC 13 (pu (pu (s.C 13) 2147483648 0) 124 (code % 4294967296 * 4 % 4294967296))) := (T2.setC 13 (by omega) (pu (pu (s.C 13) 2147483648 0) 124 (code % 4294967296 * 4 % 4294967296)) (w_pu _ _ _)).drew
  generalize (W2.setCell ⟨g, 52, none⟩ (.int .u32 (pu (pu (s.C 13) 2147483648 0) 124 (code % 4294967296 * 4 % 4294967296)))).drew = W3 at T3 ⊢
  clear cs2 c132 c13f2 c122 c12f2
  have c123 : W3.cell? ⟨g, 51, none⟩ = some (.int .u32 (s.C 12)) := T3.at_.c12
  have c12f3 : W3.frozen? ⟨g, 51, none⟩ = false := T3.at_.frozenAt 51
  go_wp2_with fail
  go_region
  rw [pu_set]
  have T4 : Turned w (W3.setCell ⟨g, 51, none⟩ (.int .u32 (pu (s.C 12) 2 2))).drew g ((((s.setC 14 s.PC).setC 13 (pu (s.C 13) 2147483648 0)).setC 13 (pu (pu (s.C 13) 2147483648 0) 124 (code % 4294967296 * 4 % 4294967296))).setC 12 (pu (s.C 12) 2 2)) := (T3.setC 12 (by omega) (pu (s.C 12) 2 2) (w_pu _ _ _)).drew
  generalize (W3.setCell ⟨g, 51, none⟩ (.int .u32 (pu (s.C 12) 2 2))).drew = W4 at T4 ⊢
  clear c123 c12f3
  have cp4 := T4.at_.cPC
  have cn4 := T4.at_.cNext
  have cs4 := T4.at_.cSlot
  have fp4 := T4.at_.frozenAt 34
  have fn4 := T4.at_.frozenAt 35
  have fs4 := T4.at_.frozenAt 36
  go_wp2_with fail
  go_end0
  refine ⟨rfl, ((((T4.setPC 2147484032 ⟨by omega, by omega⟩).setPC 2147483648 ⟨by omega, by omega⟩).setNext 2147483652 ⟨by omega, by omega⟩).setSlot false).to ?_⟩
  unfold enterF keepF
  rw [HX.out, HS.out]
  rfl

set_option maxHeartbeats 1000000 in
set_option maxRecDepth 100000 in
theorem renter_out_true_false (code : Int) (h : StAt w g s) (HX : Hid (inX s = false)) (HS : Hid (s.Slot = true)) (t0 : (bits .and .u32 (s.C 12) 2 != 0) = false) :
    Calls Try.prog 20 #[.pointer (some ⟨g, 0, none⟩), .int .i64 code, .bool false] w (RetS (.tuple #[]) w g (enterF s code false)) := by
  have cx := h.c12
  go_enter Try.func20, Try.ntmps20
  have c140 : w.cell? ⟨g, 53, none⟩ = some (.int .u32 (s.C 14)) := h.c14
  have c14f0 : w.frozen? ⟨g, 53, none⟩ = false := h.frozenAt 53
  have cpp0 := h.cPC
  go_wp2_with fail
  go_region
  have T1 : Turned w (w.setCell ⟨g, 53, none⟩ (.int .u32 (s.PC))).drew g (s.setC 14 s.PC) := ((Turned.refl h).setC 14 (by omega) (s.PC) (h.ok.pc)).drew
  generalize (w.setCell ⟨g, 53, none⟩ (.int .u32 (s.PC))).drew = W1 at T1 ⊢
  clear c140 c14f0 cpp0 cx
  have c131 : W1.cell? ⟨g, 52, none⟩ = some (.int .u32 (s.C 13)) := T1.at_.c13
  have c13f1 : W1.frozen? ⟨g, 52, none⟩ = false := T1.at_.frozenAt 52
  go_wp2_with fail
  go_region
  rw [pu_clear]
  have T2 : Turned w (W1.setCell ⟨g, 52, none⟩ (.int .u32 (pu (s.C 13) 2147483648 0))).drew g ((s.setC 14 s.PC).setC 13 (pu (s.C 13) 2147483648 0)) := (T1.setC 13 (by omega) (pu (s.C 13) 2147483648 0) (w_pu _ _ _)).drew
  generalize (W1.setCell ⟨g, 52, none⟩ (.int .u32 (pu (s.C 13) 2147483648 0))).drew = W2 at T2 ⊢
  clear c131 c13f1
  have cs2 : W2.cell? ⟨g, 36, none⟩ = some (.bool true) := T2.at_.cSlot.trans (by show some (Value.bool s.Slot) = _; rw [HS.out])
  have cpp2 : W2.cell? ⟨g, 34, none⟩ = some (.int .u32 s.PC) := T2.at_.cPC
  have c142 : W2.cell? ⟨g, 53, none⟩ = some (.int .u32 s.PC) := T2.at_.c14
  have c14f2 : W2.frozen? ⟨g, 53, none⟩ = false := T2.at_.frozenAt 53
  go_wp2_with fail
  go_region
  have T3 : Turned w (W2.setCell ⟨g, 53, none⟩ (.int .u32 ((s.PC - 4) % 4294967296))).drew g (((s.setC 14 s.PC).setC 13 (pu (s.C 13) 2147483648 0)).setC 14 ((s.PC - 4) % 4294967296)) := (T2.setC 14 (by omega) ((s.PC - 4) % 4294967296) (w_mod _)).drew
  generalize (W2.setCell ⟨g, 53, none⟩ (.int .u32 ((s.PC - 4) % 4294967296))).drew = W3 at T3 ⊢
  clear cs2 cpp2 c142 c14f2
  have c133 : W3.cell? ⟨g, 52, none⟩ = some (.int .u32 (pu (s.C 13) 2147483648 0)) := T3.at_.c13
  have c13f3 : W3.frozen? ⟨g, 52, none⟩ = false := T3.at_.frozenAt 52
  go_wp2_with fail
  go_region
  rw [pu_set2]
  have T4 : Turned w (W3.setCell ⟨g, 52, none⟩ (.int .u32 (pu (s.C 13) 2147483648 2147483648))).drew g ((((s.setC 14 s.PC).setC 13 (pu (s.C 13) 2147483648 0)).setC 14 ((s.PC - 4) % 4294967296)).setC 13 (pu (s.C 13) 2147483648 2147483648)) := (T3.setC 13 (by omega) (pu (s.C 13) 2147483648 2147483648) (w_pu _ _ _)).drew
  generalize (W3.setCell ⟨g, 52, none⟩ (.int .u32 (pu (s.C 13) 2147483648 2147483648))).drew = W4 at T4 ⊢
  clear c133 c13f3
  rw [setC_over] at T4
  have c134 : W4.cell? ⟨g, 52, none⟩ = some (.int .u32 (pu (s.C 13) 2147483648 2147483648)) := T4.at_.c13
  have c13f4 : W4.frozen? ⟨g, 52, none⟩ = false := T4.at_.frozenAt 52
  have c124 : W4.cell? ⟨g, 51, none⟩ = some (.int .u32 (s.C 12)) := T4.at_.c12
  have c12f4 : W4.frozen? ⟨g, 51, none⟩ = false := T4.at_.frozenAt 51
  go_wp2_with fail
  go_region
  rw [or_code]
  have T5 : Turned w (W4.setCell ⟨g, 52, none⟩ (.int .u32 (pu (pu (s.C 13) 2147483648 2147483648) 124 (code % 4294967296 * 4 % 4294967296)))).drew g (((s.setC 14 ((s.PC - 4) % 4294967296)).setC 13 (pu (s.C 13) 2147483648 2147483648)).setC 13 (pu (pu (s.C 13) 2147483648 2147483648) 124 (code % 4294967296 * 4 % 4294967296))) := (T4.setC 13 (by omega) (pu (pu (s.C 13) 2147483648 2147483648) 124 (code % 4294967296 * 4 % 4294967296)) (w_pu _ _ _)).drew
  generalize (W4.setCell ⟨g, 52, none⟩ (.int .u32 (pu (pu (s.C 13) 2147483648 2147483648) 124 (code % 4294967296 * 4 % 4294967296)))).drew = W5 at T5 ⊢
  clear c134 c13f4 c124 c12f4
  have c125 : W5.cell? ⟨g, 51, none⟩ = some (.int .u32 (s.C 12)) := T5.at_.c12
  have c12f5 : W5.frozen? ⟨g, 51, none⟩ = false := T5.at_.frozenAt 51
  go_wp2_with fail
  go_region
  rw [pu_set]
  have T6 : Turned w (W5.setCell ⟨g, 51, none⟩ (.int .u32 (pu (s.C 12) 2 2))).drew g ((((s.setC 14 ((s.PC - 4) % 4294967296)).setC 13 (pu (s.C 13) 2147483648 2147483648)).setC 13 (pu (pu (s.C 13) 2147483648 2147483648) 124 (code % 4294967296 * 4 % 4294967296))).setC 12 (pu (s.C 12) 2 2)) := (T5.setC 12 (by omega) (pu (s.C 12) 2 2) (w_pu _ _ _)).drew
  generalize (W5.setCell ⟨g, 51, none⟩ (.int .u32 (pu (s.C 12) 2 2))).drew = W6 at T6 ⊢
  clear c125 c12f5
  have cp6 := T6.at_.cPC
  have cn6 := T6.at_.cNext
  have cs6 := T6.at_.cSlot
  have fp6 := T6.at_.frozenAt 34
  have fn6 := T6.at_.frozenAt 35
  have fs6 := T6.at_.frozenAt 36
  go_wp2_with fail
  go_end0
  refine ⟨rfl, (((T6.setPC 2147484032 ⟨by omega, by omega⟩).setNext 2147484036 ⟨by omega, by omega⟩).setSlot false).to ?_⟩
  unfold enterF keepF
  rw [HX.out, HS.out]
  rfl

set_option maxHeartbeats 1000000 in
set_option maxRecDepth 100000 in
theorem renter_out_true_true (code : Int) (h : StAt w g s) (HX : Hid (inX s = false)) (HS : Hid (s.Slot = true)) (t0 : (bits .and .u32 (s.C 12) 2 != 0) = false) :
    Calls Try.prog 20 #[.pointer (some ⟨g, 0, none⟩), .int .i64 code, .bool true] w (RetS (.tuple #[]) w g (enterF s code true)) := by
  have cx := h.c12
  go_enter Try.func20, Try.ntmps20
  have c140 : w.cell? ⟨g, 53, none⟩ = some (.int .u32 (s.C 14)) := h.c14
  have c14f0 : w.frozen? ⟨g, 53, none⟩ = false := h.frozenAt 53
  have cpp0 := h.cPC
  go_wp2_with fail
  go_region
  have T1 : Turned w (w.setCell ⟨g, 53, none⟩ (.int .u32 (s.PC))).drew g (s.setC 14 s.PC) := ((Turned.refl h).setC 14 (by omega) (s.PC) (h.ok.pc)).drew
  generalize (w.setCell ⟨g, 53, none⟩ (.int .u32 (s.PC))).drew = W1 at T1 ⊢
  clear c140 c14f0 cpp0 cx
  have c131 : W1.cell? ⟨g, 52, none⟩ = some (.int .u32 (s.C 13)) := T1.at_.c13
  have c13f1 : W1.frozen? ⟨g, 52, none⟩ = false := T1.at_.frozenAt 52
  go_wp2_with fail
  go_region
  rw [pu_clear]
  have T2 : Turned w (W1.setCell ⟨g, 52, none⟩ (.int .u32 (pu (s.C 13) 2147483648 0))).drew g ((s.setC 14 s.PC).setC 13 (pu (s.C 13) 2147483648 0)) := (T1.setC 13 (by omega) (pu (s.C 13) 2147483648 0) (w_pu _ _ _)).drew
  generalize (W1.setCell ⟨g, 52, none⟩ (.int .u32 (pu (s.C 13) 2147483648 0))).drew = W2 at T2 ⊢
  clear c131 c13f1
  have cs2 : W2.cell? ⟨g, 36, none⟩ = some (.bool true) := T2.at_.cSlot.trans (by show some (Value.bool s.Slot) = _; rw [HS.out])
  have cpp2 : W2.cell? ⟨g, 34, none⟩ = some (.int .u32 s.PC) := T2.at_.cPC
  have c142 : W2.cell? ⟨g, 53, none⟩ = some (.int .u32 s.PC) := T2.at_.c14
  have c14f2 : W2.frozen? ⟨g, 53, none⟩ = false := T2.at_.frozenAt 53
  go_wp2_with fail
  go_region
  have T3 : Turned w (W2.setCell ⟨g, 53, none⟩ (.int .u32 ((s.PC - 4) % 4294967296))).drew g (((s.setC 14 s.PC).setC 13 (pu (s.C 13) 2147483648 0)).setC 14 ((s.PC - 4) % 4294967296)) := (T2.setC 14 (by omega) ((s.PC - 4) % 4294967296) (w_mod _)).drew
  generalize (W2.setCell ⟨g, 53, none⟩ (.int .u32 ((s.PC - 4) % 4294967296))).drew = W3 at T3 ⊢
  clear cs2 cpp2 c142 c14f2
  have c133 : W3.cell? ⟨g, 52, none⟩ = some (.int .u32 (pu (s.C 13) 2147483648 0)) := T3.at_.c13
  have c13f3 : W3.frozen? ⟨g, 52, none⟩ = false := T3.at_.frozenAt 52
  go_wp2_with fail
  go_region
  rw [pu_set2]
  have T4 : Turned w (W3.setCell ⟨g, 52, none⟩ (.int .u32 (pu (s.C 13) 2147483648 2147483648))).drew g ((((s.setC 14 s.PC).setC 13 (pu (s.C 13) 2147483648 0)).setC 14 ((s.PC - 4) % 4294967296)).setC 13 (pu (s.C 13) 2147483648 2147483648)) := (T3.setC 13 (by omega) (pu (s.C 13) 2147483648 2147483648) (w_pu _ _ _)).drew
  generalize (W3.setCell ⟨g, 52, none⟩ (.int .u32 (pu (s.C 13) 2147483648 2147483648))).drew = W4 at T4 ⊢
  clear c133 c13f3
  rw [setC_over] at T4
  have c134 : W4.cell? ⟨g, 52, none⟩ = some (.int .u32 (pu (s.C 13) 2147483648 2147483648)) := T4.at_.c13
  have c13f4 : W4.frozen? ⟨g, 52, none⟩ = false := T4.at_.frozenAt 52
  have c124 : W4.cell? ⟨g, 51, none⟩ = some (.int .u32 (s.C 12)) := T4.at_.c12
  have c12f4 : W4.frozen? ⟨g, 51, none⟩ = false := T4.at_.frozenAt 51
  go_wp2_with fail
  go_region
  rw [or_code]
  have T5 : Turned w (W4.setCell ⟨g, 52, none⟩ (.int .u32 (pu (pu (s.C 13) 2147483648 2147483648) 124 (code % 4294967296 * 4 % 4294967296)))).drew g (((s.setC 14 ((s.PC - 4) % 4294967296)).setC 13 (pu (s.C 13) 2147483648 2147483648)).setC 13 (pu (pu (s.C 13) 2147483648 2147483648) 124 (code % 4294967296 * 4 % 4294967296))) := (T4.setC 13 (by omega) (pu (pu (s.C 13) 2147483648 2147483648) 124 (code % 4294967296 * 4 % 4294967296)) (w_pu _ _ _)).drew
  generalize (W4.setCell ⟨g, 52, none⟩ (.int .u32 (pu (pu (s.C 13) 2147483648 2147483648) 124 (code % 4294967296 * 4 % 4294967296)))).drew = W5 at T5 ⊢
  clear c134 c13f4 c124 c12f4
  have c125 : W5.cell? ⟨g, 51, none⟩ = some (.int .u32 (s.C 12)) := T5.at_.c12
  have c12f5 : W5.frozen? ⟨g, 51, none⟩ = false := T5.at_.frozenAt 51
  go_wp2_with fail
  go_region
  rw [pu_set]
  have T6 : Turned w (W5.setCell ⟨g, 51, none⟩ (.int .u32 (pu (s.C 12) 2 2))).drew g ((((s.setC 14 ((s.PC - 4) % 4294967296)).setC 13 (pu (s.C 13) 2147483648 2147483648)).setC 13 (pu (pu (s.C 13) 2147483648 2147483648) 124 (code % 4294967296 * 4 % 4294967296))).setC 12 (pu (s.C 12) 2 2)) := (T5.setC 12 (by omega) (pu (s.C 12) 2 2) (w_pu _ _ _)).drew
  generalize (W5.setCell ⟨g, 51, none⟩ (.int .u32 (pu (s.C 12) 2 2))).drew = W6 at T6 ⊢
  clear c125 c12f5
  have cp6 := T6.at_.cPC
  have cn6 := T6.at_.cNext
  have cs6 := T6.at_.cSlot
  have fp6 := T6.at_.frozenAt 34
  have fn6 := T6.at_.frozenAt 35
  have fs6 := T6.at_.frozenAt 36
  go_wp2_with fail
  go_end0
  refine ⟨rfl, ((((T6.setPC 2147484032 ⟨by omega, by omega⟩).setPC 2147483648 ⟨by omega, by omega⟩).setNext 2147483652 ⟨by omega, by omega⟩).setSlot false).to ?_⟩
  unfold enterF keepF
  rw [HX.out, HS.out]
  rfl

theorem renter_any (code : Int) (refill : Bool) (h : StAt w g s) :
    Calls Try.prog 20 #[.pointer (some ⟨g, 0, none⟩), .int .i64 code, .bool refill] w (RetS (.tuple #[]) w g (enterF s code refill)) := by
  cases hx : inX s
  · have t0 : (bits .and .u32 (s.C 12) 2 != 0) = false := by rw [exl0 s h.ok hx]; rfl
    cases hs : s.Slot <;> cases refill
    · exact renter_out_false_false code h hx hs t0
    · exact renter_out_false_true code h hx hs t0
    · exact renter_out_true_false code h hx hs t0
    · exact renter_out_true_true code h hx hs t0
  · have t0 : (bits .and .u32 (s.C 12) 2 != 0) = true := by rw [exl2 s h.ok hx]; rfl
    cases refill
    · exact renter_in_false code h hx t0
    · exact renter_in_true code h hx t0
end
end Go.Proofs.Ytjadjfcdgnmomaa
