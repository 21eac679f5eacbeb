/-
  Chapter 15: the document's bus: Set and Line of every device, in the one state.
-/
import Derived.Test.YtkfedihaldpgmaaBu15
namespace Go.Proofs.Ytkfedihaldpgmaa
open Go.RowKit
set_option linter.unusedVariables false
set_option linter.unusedSimpArgs false
/-- what Set of word k of device d leaves -/
def setB (d k : Nat) (v now : Int) (S : BS) : BS := match d with
  | 0 => if k = 1 then { S with ask := bits .and .u32 v 62 } else S
  | 1 => wrT0 k v now S
  | 2 => wrT1 k v now S
  | 3 => wrU k v now S
  | 4 => wrM k v now S
  | 5 => wrK k v now S
  | _ => S
/-- how many words a device has -/
def wordsN (d : Nat) : Nat := match d with
  | 0 => 4
  | 1 => 3
  | 2 => 3
  | 3 => 3
  | 4 => 5
  | 5 => 4
  | _ => 0
/-- words are words -/
structure Gs (S : BS) : Prop where
  a0 : 0 ≤ S.a ∧ S.a ≤ 1000000
  l0 : S.L.length ≤ 990000
  p0 : 0 ≤ S.p0 ∧ S.p0 < 4294967296
  p1 : 0 ≤ S.p1 ∧ S.p1 < 4294967296
  n0 : 0 ≤ S.n ∧ S.n < 4294967296
section
variable {w w' : World} {m r y : Nat} {O : Nat → Prop} {p n : Nat} {V : SV} {S : BS}
end
end Go.Proofs.Ytkfedihaldpgmaa
