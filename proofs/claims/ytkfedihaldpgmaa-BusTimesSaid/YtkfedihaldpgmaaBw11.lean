/-
  Chapter 11: the document's wheel as a part of the document's bus (one block of 25 cells; the wheel's are 1 and 2).
-/
import Derived.Test.YtkfedihaldpgmaaWc9
namespace Go.Proofs.Ytkfedihaldpgmaa
open Go.RowKit
set_option linter.unusedVariables false
set_option linter.unusedSimpArgs false
/-- the cells of a bus: the wheel's two, and C of all others -/
def bw (C : Nat → Value) (v : Value) (a : Int) : Nat → Value
  | 1 => v
  | 2 => .int .i64 a
  | j => C j
theorem bw_other (C : Nat → Value) (v : Value) (a : Int) {j : Nat} (h1 : j ≠ 1) (h2 : j ≠ 2) : bw C v a j = C j := by
  match j with
  | 0 => rfl
  | 1 => exact absurd rfl h1
  | 2 => exact absurd rfl h2
  | j + 3 => rfl
theorem bw_set1 (C : Nat → Value) (v v2 : Value) (a : Int) (j : Nat) : (if j = 1 then v2 else bw C v a j) = bw C v2 a j := by
  match j with
  | 0 => rfl
  | 1 => rfl
  | 2 => rfl
  | j + 3 => rfl
theorem bw_set2 (C : Nat → Value) (v : Value) (a a2 : Int) (j : Nat) : (if j = 2 then .int .i64 a2 else bw C v a j) = bw C v a2 j := by
  match j with
  | 0 => rfl
  | 1 => rfl
  | 2 => rfl
  | j + 3 => rfl
theorem bw_setC (C : Nat → Value) (v : Value) (a : Int) (i : Nat) (u : Value) (h1 : i ≠ 1) (h2 : i ≠ 2) (j : Nat) : (if j = i then u else bw C v a j) = bw (fun j => if j = i then u else C j) v a j := by
  match j with
  | 0 => rfl
  | 1 => rw [if_neg (by omega)]; rfl
  | 2 => rw [if_neg (by omega)]; rfl
  | j + 3 => rfl
section
variable {C : Nat → Value} {w w' : World} {g : Nat} {v : Value} {L : List Ev} {a : Int}
end
theorem Ch.setH (g : Nat) (v : Value) (w : World) (u : Value) : Ch g v v w (w.setCell ⟨g, 2, none⟩ u) := ⟨(Fr.refl (Own g v) w).setCell (x := ⟨g, 2, none⟩) (.inl (.inl rfl)) u, fun _ h => .inl h⟩
theorem Ch.setI (g : Nat) (v : Value) (w : World) (i : Nat) (u : Value) : Ch g v v w (w.setCell ⟨g, i, none⟩ u) := ⟨(Fr.refl (Own g v) w).setCell (x := ⟨g, i, none⟩) (.inl (.inl rfl)) u, fun _ h => .inl h⟩
end Go.Proofs.Ytkfedihaldpgmaa
