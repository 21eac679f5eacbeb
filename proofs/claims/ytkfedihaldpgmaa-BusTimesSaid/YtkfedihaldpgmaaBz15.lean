/-
  Chapter 15: the document's bus: New.
-/
import Derived.Test.YtkfedihaldpgmaaBi15
import Derived.Test.YtkfedihaldpgmaaPn15
/-
  Chapter 15: the document's bus: Type, New, in the one state.
-/
namespace Go.Proofs.Ytkfedihaldpgmaa
open Go.RowKit
set_option linter.unusedVariables false
set_option linter.unusedSimpArgs false
section
variable {w w' : World} {m r y : Nat} {O : Nat → Prop} {p n : Nat} {V : SV} {S : BS} {N : Int}
end
end Go.Proofs.Ytkfedihaldpgmaa

namespace Go.Proofs.Ytkfedihaldpgmaa
open Go.RowKit
set_option linter.unusedVariables false
set_option linter.unusedSimpArgs false
/-- the cells of a new bus, x: its disk's slice -/
def bc (r : Nat) (x : Value) : Nat → Value
  | 0 => .pointer (some ⟨r, 0, none⟩)
  | 1 => .slice none 0 0
  | 2 => .int .i64 0
  | 3 => .int .u32 0
  | 4 => .int .u32 0
  | 5 => .int .u32 0
  | 6 => .int .u32 0
  | 7 => .int .u32 0
  | 8 => .int .u32 0
  | 9 => .slice none 0 0
  | 10 => .slice none 0 0
  | 11 => .bool false
  | 12 => .int .u32 0
  | 13 => .slice none 0 0
  | 14 => .int .u32 0
  | 15 => .int .u32 0
  | 16 => .int .u32 0
  | 17 => .int .u32 0
  | 18 => .int .u32 0
  | 19 => .int .u32 0
  | 20 => .int .u32 0
  | 21 => .int .u32 0
  | 22 => x
  | 23 => .int .u32 0
  | _ => .int .u32 0
def V00 : SV := ⟨.slice none 0 0, .slice none 0 0, .slice none 0 0, .slice none 0 0⟩
theorem imC_copy (p len : Nat) (f : Nat → Int) : putC Z0 0 (min len (1024 * p)) f = imC p len f := by
  have h : inB p 0 ((min len (1024 * p) : Nat) : Int) = true := by unfold inB; apply decide_eq_true; omega
  rw [← imC_put]
  unfold uC
  rw [h]
  rfl
end Go.Proofs.Ytkfedihaldpgmaa
