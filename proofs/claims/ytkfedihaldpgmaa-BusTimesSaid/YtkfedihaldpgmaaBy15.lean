/-
  Chapter 15: the document's bus: B1 of dma's and disk's events, Take, in the one state.
-/
import Derived.Test.YtkfedihaldpgmaaBx15
/-
  Chapter 15: the document's bus: Line of every device, in the one state.
-/
namespace Go.Proofs.Ytkfedihaldpgmaa
open Go.RowKit
set_option linter.unusedVariables false
set_option linter.unusedSimpArgs false
def lineU (S : BS) : Bool := ((bits .and .u32 S.uc 1 != 0) && decide (0 < S.came.length)) || ((bits .and .u32 S.uc 2 != 0) && decide (S.goes.length = 0))
/-- whether device d asks -/
def lineB (d : Nat) (S : BS) : Bool := match d with
  | 1 => S.s0
  | 2 => S.s1
  | 3 => lineU S
  | 4 => S.dn || S.er
  | 5 => S.kd || S.ke
  | _ => false
section
variable {w w' : World} {m r y : Nat} {O : Nat → Prop} {p n : Nat} {V : SV} {S : BS}
end
end Go.Proofs.Ytkfedihaldpgmaa

namespace Go.Proofs.Ytkfedihaldpgmaa
open Go.RowKit
set_option linter.unusedVariables false
set_option linter.unusedSimpArgs false
section
variable {w w' : World} {m r y : Nat} {O : Nat → Prop} {p n : Nat} {V : SV} {S : BS}
end
end Go.Proofs.Ytkfedihaldpgmaa
