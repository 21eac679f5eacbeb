/-
  Chapter 11, from chapter 9's text: as a part of the document's bus: Arm (as one), Take, At of the document's wheel; two lists of events held against each other (Same).
-/
import Derived.Test.YtkfedihaldpgmaaBa11
namespace Go.Proofs.Ytkfedihaldpgmaa
open Go.RowKit
set_option linter.unusedVariables false
set_option linter.unusedSimpArgs false
section
variable {C : Nat → Value} {w : World} {g : Nat} {v : Value} {L : List Ev} {a : Int}
theorem three_set {X : Nat} {u : Ev} (h : w.rowIs X 50 3 (three u)) (x : Ev) : (((w.setCell ⟨X, 0, none⟩ (.int .i64 x.t)).setCell ⟨X, 1, none⟩ (.int .i64 x.d)).setCell ⟨X, 2, none⟩ (.int .i64 x.s)).rowIs X 50 3 (three x) :=
  (((h.set 0 _).set 1 _).set 2 _).congr fun j hj => by
    have : j = 0 ∨ j = 1 ∨ j = 2 := by omega
    rcases this with rfl | rfl | rfl <;> rfl
end
end Go.Proofs.Ytkfedihaldpgmaa
