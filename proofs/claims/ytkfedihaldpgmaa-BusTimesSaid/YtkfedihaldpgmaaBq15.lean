/-
  Chapter 15: the document's bus: Word of the uart, in the one state.
-/
import Derived.Test.YtkfedihaldpgmaaBw15
import Derived.Deep.RegionHeld3
namespace Go.Proofs.Ytkfedihaldpgmaa
open Go.RowKit
set_option linter.unusedVariables false
set_option linter.unusedSimpArgs false
theorem or_st (c f l e : Bool) : bits .or .u32 (bits .or .u32 (bits .or .u32 (bI c 1) (bI f 2)) (bI l 4)) (bI e 8) = stU c f l e := by cases c <;> cases f <;> cases l <;> cases e <;> rfl
section
variable {w w' : World} {m r y : Nat} {O : Nat → Prop} {p n : Nat} {V : SV} {S : BS}
theorem st_eq {N1 N2 : Nat} {cb : Bool} (hc : cb = decide (0 < N1)) (hg : N2 ≤ 16) (l : Bool) : bits .or .u32 (bits .or .u32 (bits .or .u32 (bI cb 1) (bI (decide ((16 : Int) ≤ (N2 : Int))) 2)) (bI l 4)) (bI ((N2 : Int) == 0) 8) = stU (decide (0 < N1)) (decide (N2 = 16)) l (decide (N2 = 0)) := by
  rw [or_st, hc]
  congr 1
  · rw [decide_eq_decide]; omega
  · by_cases h : N2 = 0
    · subst h; rfl
    · rw [decide_eq_false h]; exact beq_false_of_ne (by omega)
end
end Go.Proofs.Ytkfedihaldpgmaa
