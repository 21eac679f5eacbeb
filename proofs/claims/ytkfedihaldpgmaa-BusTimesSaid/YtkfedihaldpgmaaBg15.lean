/-
  Chapter 15: the document's bus: gather, where, Next, Raised, in the one state.
-/
import Derived.Test.YtkfedihaldpgmaaBr15
import Derived.Test.YtkfedihaldpgmaaPi15
namespace Go.Proofs.Ytkfedihaldpgmaa
open Go.RowKit
set_option linter.unusedVariables false
set_option linter.unusedSimpArgs false
/-- the lines behind k of the devices, gathered anew -/
def upP (k : Nat) (S : BS) : Int := match k with
  | 0 => 0
  | 1 => upW (lineB 1 S) false false false false
  | 2 => upW (lineB 1 S) (lineB 2 S) false false false
  | 3 => upW (lineB 1 S) (lineB 2 S) (lineB 3 S) false false
  | 4 => upW (lineB 1 S) (lineB 2 S) (lineB 3 S) (lineB 4 S) false
  | _ => linesW S
theorem or_1 : bits .or .u32 0 2 = upW true false false false false := rfl
theorem or_2 (c1 : Bool) : bits .or .u32 (upW c1 false false false false) 4 = upW c1 true false false false := by cases c1 <;> rfl
theorem or_3 (c1 c2 : Bool) : bits .or .u32 (upW c1 c2 false false false) 8 = upW c1 c2 true false false := by cases c1 <;> cases c2 <;> rfl
theorem or_4 (c1 c2 c3 : Bool) : bits .or .u32 (upW c1 c2 c3 false false) 16 = upW c1 c2 c3 true false := by cases c1 <;> cases c2 <;> cases c3 <;> rfl
theorem or_5 (c1 c2 c3 c4 : Bool) : bits .or .u32 (upW c1 c2 c3 c4 false) 32 = upW c1 c2 c3 c4 true := by cases c1 <;> cases c2 <;> cases c3 <;> cases c4 <;> rfl
theorem upP_yes {k : Nat} {S : BS} (hk : k < 5) (h : lineB (k + 1) S = true) : bits .or .u32 (upP k S) (2 ^ (k + 1)) = upP (k + 1) S := by
  have : k = 0 ∨ k = 1 ∨ k = 2 ∨ k = 3 ∨ k = 4 := by omega
  rcases this with rfl | rfl | rfl | rfl | rfl
  · show bits .or .u32 0 2 = upW (lineB 1 S) _ _ _ _; rw [h]; rfl
  · show bits .or .u32 (upW (lineB 1 S) _ _ _ _) 4 = upW (lineB 1 S) (lineB 2 S) _ _ _; rw [h]; exact or_2 _
  · show bits .or .u32 (upW (lineB 1 S) (lineB 2 S) _ _ _) 8 = upW (lineB 1 S) (lineB 2 S) (lineB 3 S) _ _; rw [h]; exact or_3 _ _
  · show bits .or .u32 (upW (lineB 1 S) (lineB 2 S) (lineB 3 S) _ _) 16 = upW (lineB 1 S) (lineB 2 S) (lineB 3 S) (lineB 4 S) _; rw [h]; exact or_4 _ _ _
  · show bits .or .u32 (upW (lineB 1 S) (lineB 2 S) (lineB 3 S) (lineB 4 S) _) 32 = upW (lineB 1 S) (lineB 2 S) (lineB 3 S) (lineB 4 S) (lineB 5 S); rw [h]; exact or_5 _ _ _ _
theorem upP_no {k : Nat} {S : BS} (hk : k < 5) (h : lineB (k + 1) S = false) : upP k S = upP (k + 1) S := by
  have : k = 0 ∨ k = 1 ∨ k = 2 ∨ k = 3 ∨ k = 4 := by omega
  rcases this with rfl | rfl | rfl | rfl | rfl
  · show (0 : Int) = upW (lineB 1 S) _ _ _ _; rw [h]; rfl
  · show _ = upW (lineB 1 S) (lineB 2 S) _ _ _; rw [h]; rfl
  · show _ = upW (lineB 1 S) (lineB 2 S) (lineB 3 S) _ _; rw [h]; rfl
  · show _ = upW (lineB 1 S) (lineB 2 S) (lineB 3 S) (lineB 4 S) _; rw [h]; rfl
  · show _ = upW (lineB 1 S) (lineB 2 S) (lineB 3 S) (lineB 4 S) (lineB 5 S); rw [h]; rfl
section
variable {w w' : World} {m r y : Nat} {O : Nat → Prop} {p n : Nat} {V : SV} {S : BS}
theorem lineB_up (d : Nat) (S : BS) (x : Int) : lineB d { S with up := x } = lineB d S := by
  match d with
  | 0 => rfl
  | 1 => rfl
  | 2 => rfl
  | 3 => rfl
  | 4 => rfl
  | 5 => rfl
  | d + 6 => rfl
end
end Go.Proofs.Ytkfedihaldpgmaa
