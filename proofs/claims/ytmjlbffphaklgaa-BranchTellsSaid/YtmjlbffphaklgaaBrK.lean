/-
  Chapter 5: function isKind of package decode.
-/
import Derived.Test.YtmjlbffphaklgaaBrM
namespace Go.Proofs.Ytmjlbffphaklgaa
open Go.RowKit
set_option linter.unusedVariables false

set_option maxHeartbeats 400000 in
theorem isk_any (k : Int) (w : World) : Calls Try.prog 26 #[.int .i64 k] w fun e w' => e = .returned (.bool (isK k)) ∧ w = w' := by
  by_cases h : 0 < k
  · go_enter Try.func26, Try.ntmps26
    go_wp2
    go_ret
    exact ⟨ret_bool (by simp [isK, h]), rfl⟩
  · have h' : decide (0 < k) = false := by simpa using h
    go_enter Try.func26, Try.ntmps26
    go_wp2
    go_ret
    exact ⟨ret_bool (by simp only [isK]; symm; rw [decide_eq_false_iff_not]; omega), rfl⟩
end Go.Proofs.Ytmjlbffphaklgaa
