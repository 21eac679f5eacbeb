/-
  Chapter 5: functions Links of package branch and of the document's own answer.
-/
import Derived.Test.YtmjlbffphaklgaaBrM
namespace Go.Proofs.Ytmjlbffphaklgaa
open Go.RowKit
set_option linter.unusedVariables false

set_option maxHeartbeats 1000000 in
theorem lk41 (a b c h i : Int) (w : World) : Calls Try.prog 12 #[.agg #[.int .i64 41, .int .i64 a, .int .i64 b, .int .i64 c, .int .i64 h, .int .u32 i]] w fun e w' => e = .returned (.tuple #[.int .i64 (lkI 41 c), .bool (lkB 41)]) ∧ Below w.heap.size w w' := by
  go_enter Try.func12, Try.ntmps12
  go_wp2
  go_ret2
  exact ⟨ret_pair (by simp [lkI]) (by simp [lkB]), below_new⟩
set_option maxHeartbeats 1000000 in
theorem lk38 (a b c h i : Int) (w : World) : Calls Try.prog 12 #[.agg #[.int .i64 38, .int .i64 a, .int .i64 b, .int .i64 c, .int .i64 h, .int .u32 i]] w fun e w' => e = .returned (.tuple #[.int .i64 (lkI 38 c), .bool (lkB 38)]) ∧ Below w.heap.size w w' := by
  go_enter Try.func12, Try.ntmps12
  go_wp2
  go_ret2
  exact ⟨ret_pair (by simp [lkI]) (by simp [lkB]), below_new⟩
set_option maxHeartbeats 1000000 in
theorem lk39 (a b c h i : Int) (w : World) : Calls Try.prog 12 #[.agg #[.int .i64 39, .int .i64 a, .int .i64 b, .int .i64 c, .int .i64 h, .int .u32 i]] w fun e w' => e = .returned (.tuple #[.int .i64 (lkI 39 c), .bool (lkB 39)]) ∧ Below w.heap.size w w' := by
  go_enter Try.func12, Try.ntmps12
  go_wp2
  go_ret2
  exact ⟨ret_pair (by simp [lkI]) (by simp [lkB]), below_new⟩
set_option maxHeartbeats 1000000 in
theorem lk8 (a b c h i : Int) (w : World) : Calls Try.prog 12 #[.agg #[.int .i64 8, .int .i64 a, .int .i64 b, .int .i64 c, .int .i64 h, .int .u32 i]] w fun e w' => e = .returned (.tuple #[.int .i64 (lkI 8 c), .bool (lkB 8)]) ∧ Below w.heap.size w w' := by
  go_enter Try.func12, Try.ntmps12
  go_wp2
  go_ret2
  exact ⟨ret_pair (by simp [lkI]) (by simp [lkB]), below_new⟩
set_option maxHeartbeats 1000000 in
theorem lk_out (k a b c h i : Int) (w : World) (hk : lkB k = false) : Calls Try.prog 12 #[.agg #[.int .i64 k, .int .i64 a, .int .i64 b, .int .i64 c, .int .i64 h, .int .u32 i]] w fun e w' => e = .returned (.tuple #[.int .i64 (lkI k c), .bool (lkB k)]) ∧ Below w.heap.size w w' := by
  simp only [lkB, decide_eq_false_iff_not] at hk
  have v1 := Lib.hid (show lkI k c = 0 by unfold lkI; rw [if_neg (by omega), if_neg (by omega)])
  have v2 := Lib.hid (show lkB k = false by simp only [lkB, decide_eq_false_iff_not]; omega)
  have e41 : (k == 41) = false := by simp only [beq_eq_false_iff_ne]; omega
  have e38 : (k == 38) = false := by simp only [beq_eq_false_iff_ne]; omega
  have e39 : (k == 39) = false := by simp only [beq_eq_false_iff_ne]; omega
  have e8 : (k == 8) = false := by simp only [beq_eq_false_iff_ne]; omega
  clear hk
  go_enter Try.func12, Try.ntmps12
  go_wp2
  go_ret2
  exact ⟨ret_pair v1.out.symm v2.out.symm, below_new⟩
theorem lk_any (k a b c h i : Int) (w : World) : Calls Try.prog 12 #[.agg #[.int .i64 k, .int .i64 a, .int .i64 b, .int .i64 c, .int .i64 h, .int .u32 i]] w fun e w' => e = .returned (.tuple #[.int .i64 (lkI k c), .bool (lkB k)]) ∧ Below w.heap.size w w' := by
  cases hk : lkB k
  · rw [← hk]
    exact lk_out k a b c h i w hk
  · rw [← hk]
    have hk' := hk
    simp only [lkB, decide_eq_true_eq] at hk'
    rcases hk' with rfl | rfl | rfl | rfl
    · exact lk41 a b c h i w
    · exact lk38 a b c h i w
    · exact lk39 a b c h i w
    · exact lk8 a b c h i w
set_option maxHeartbeats 1000000 in
theorem rlk41 (a b c h i : Int) (w : World) : Calls Try.prog 14 #[.agg #[.int .i64 41, .int .i64 a, .int .i64 b, .int .i64 c, .int .i64 h, .int .u32 i]] w fun e w' => e = .returned (.tuple #[.int .i64 (lkI 41 c), .bool (lkB 41)]) ∧ Below w.heap.size w w' := by
  go_enter Try.func14, Try.ntmps14
  go_wp2
  go_ret2
  exact ⟨ret_pair (by simp [lkI]) (by simp [lkB]), below_new⟩
set_option maxHeartbeats 1000000 in
theorem rlk38 (a b c h i : Int) (w : World) : Calls Try.prog 14 #[.agg #[.int .i64 38, .int .i64 a, .int .i64 b, .int .i64 c, .int .i64 h, .int .u32 i]] w fun e w' => e = .returned (.tuple #[.int .i64 (lkI 38 c), .bool (lkB 38)]) ∧ Below w.heap.size w w' := by
  go_enter Try.func14, Try.ntmps14
  go_wp2
  go_ret2
  exact ⟨ret_pair (by simp [lkI]) (by simp [lkB]), below_new⟩
set_option maxHeartbeats 1000000 in
theorem rlk39 (a b c h i : Int) (w : World) : Calls Try.prog 14 #[.agg #[.int .i64 39, .int .i64 a, .int .i64 b, .int .i64 c, .int .i64 h, .int .u32 i]] w fun e w' => e = .returned (.tuple #[.int .i64 (lkI 39 c), .bool (lkB 39)]) ∧ Below w.heap.size w w' := by
  go_enter Try.func14, Try.ntmps14
  go_wp2
  go_ret2
  exact ⟨ret_pair (by simp [lkI]) (by simp [lkB]), below_new⟩
set_option maxHeartbeats 1000000 in
theorem rlk8 (a b c h i : Int) (w : World) : Calls Try.prog 14 #[.agg #[.int .i64 8, .int .i64 a, .int .i64 b, .int .i64 c, .int .i64 h, .int .u32 i]] w fun e w' => e = .returned (.tuple #[.int .i64 (lkI 8 c), .bool (lkB 8)]) ∧ Below w.heap.size w w' := by
  go_enter Try.func14, Try.ntmps14
  go_wp2
  go_ret2
  exact ⟨ret_pair (by simp [lkI]) (by simp [lkB]), below_new⟩
set_option maxHeartbeats 1000000 in
theorem rlk_out (k a b c h i : Int) (w : World) (hk : lkB k = false) : Calls Try.prog 14 #[.agg #[.int .i64 k, .int .i64 a, .int .i64 b, .int .i64 c, .int .i64 h, .int .u32 i]] w fun e w' => e = .returned (.tuple #[.int .i64 (lkI k c), .bool (lkB k)]) ∧ Below w.heap.size w w' := by
  simp only [lkB, decide_eq_false_iff_not] at hk
  have v1 := Lib.hid (show lkI k c = 0 by unfold lkI; rw [if_neg (by omega), if_neg (by omega)])
  have v2 := Lib.hid (show lkB k = false by simp only [lkB, decide_eq_false_iff_not]; omega)
  have e41 : (k == 41) = false := by simp only [beq_eq_false_iff_ne]; omega
  have e38 : (k == 38) = false := by simp only [beq_eq_false_iff_ne]; omega
  have e39 : (k == 39) = false := by simp only [beq_eq_false_iff_ne]; omega
  have e8 : (k == 8) = false := by simp only [beq_eq_false_iff_ne]; omega
  clear hk
  go_enter Try.func14, Try.ntmps14
  go_wp2
  go_ret2
  exact ⟨ret_pair v1.out.symm v2.out.symm, below_new⟩
theorem rlk_any (k a b c h i : Int) (w : World) : Calls Try.prog 14 #[.agg #[.int .i64 k, .int .i64 a, .int .i64 b, .int .i64 c, .int .i64 h, .int .u32 i]] w fun e w' => e = .returned (.tuple #[.int .i64 (lkI k c), .bool (lkB k)]) ∧ Below w.heap.size w w' := by
  cases hk : lkB k
  · rw [← hk]
    exact rlk_out k a b c h i w hk
  · rw [← hk]
    have hk' := hk
    simp only [lkB, decide_eq_true_eq] at hk'
    rcases hk' with rfl | rfl | rfl | rfl
    · exact rlk41 a b c h i w
    · exact rlk38 a b c h i w
    · exact rlk39 a b c h i w
    · exact rlk8 a b c h i w
end Go.Proofs.Ytmjlbffphaklgaa
