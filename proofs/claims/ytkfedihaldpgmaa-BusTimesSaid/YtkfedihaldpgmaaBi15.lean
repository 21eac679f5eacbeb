/-
  Chapter 15: the document's bus: B1, Fire, Type, in the one state.
-/
import Derived.Test.YtkfedihaldpgmaaBh15
namespace Go.Proofs.Ytkfedihaldpgmaa
open Go.RowKit
set_option linter.unusedVariables false
set_option linter.unusedSimpArgs false
section
variable {w w' : World} {m r y : Nat} {O : Nat → Prop} {p n : Nat} {V : SV} {S : BS} {N : Int}
end
end Go.Proofs.Ytkfedihaldpgmaa
