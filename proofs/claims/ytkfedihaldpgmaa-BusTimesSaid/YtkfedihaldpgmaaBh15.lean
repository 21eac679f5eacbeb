/-
  Chapter 15: the document's bus: where, Next, Raised, Load, Store, Type, in the one state.
-/
import Derived.Test.YtkfedihaldpgmaaBg15
import Derived.Test.YtkfedihaldpgmaaPk15
namespace Go.Proofs.Ytkfedihaldpgmaa
open Go.RowKit
set_option linter.unusedVariables false
set_option linter.unusedSimpArgs false
/-- it is a device's word -/
def whB (a n : Int) : Bool := wdB n a && decide (520093696 ≤ a ∧ a < 520094080)
theorem whB_d {a n : Int} (h : whB a n = true) : dvN a < 6 ∧ a % 4 = 0 ∧ n = 4 ∧ 520093696 ≤ a ∧ a < 520094080 := by
  unfold whB wdB at h
  simp only [Bool.and_eq_true, decide_eq_true_eq] at h
  refine ⟨?_, h.1.2, h.1.1, h.2.1, h.2.2⟩
  unfold dvN plD
  omega
theorem whB_n {a n : Int} (h : whB a n = false) (hw : wdB n a = true) (h0 : 0 ≤ a) (h1 : a < 4294967296) : 6 ≤ dvN a := by
  unfold whB at h
  rw [hw] at h
  simp only [Bool.true_and, decide_eq_false_iff_not] at h
  unfold dvN plD
  omega
section
variable {w w' : World} {m r y : Nat} {O : Nat → Prop} {p n : Nat} {V : SV} {S : BS} {N : Int}
end
end Go.Proofs.Ytkfedihaldpgmaa
