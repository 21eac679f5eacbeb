/-
  Chapter 11: the document's wheel as a part of the document's bus (one block of 25 cells; the wheel's are 1 and 2).
-/
import Derived.Test.YtkfedihaldpgmaaGreatWc9
namespace Go.Proofs.YtkfedihaldpgmaaGreat
open Go.RowKit
set_option linter.unusedVariables false
set_option linter.unusedSimpArgs false
/-- the cells of a bus: the wheel's two, and C of all others -/
def bw (C : Nat → Value) (v : Value) (a : Int) : Nat → Value
  | 1 => v
  | 2 => .int .i64 a
  | j => C j
theorem bw_other (C : Nat → Value) (v : Value) (a : Int) {j : Nat} (h1 : j ≠ 1) (h2 : j ≠ 2) : bw C v a j = C j := by
  match j with
  | 0 => rfl
  | 1 => exact absurd rfl h1
  | 2 => exact absurd rfl h2
  | j + 3 => rfl
theorem bw_set1 (C : Nat → Value) (v v2 : Value) (a : Int) (j : Nat) : (if j = 1 then v2 else bw C v a j) = bw C v2 a j := by
  match j with
  | 0 => rfl
  | 1 => rfl
  | 2 => rfl
  | j + 3 => rfl
theorem bw_set2 (C : Nat → Value) (v : Value) (a a2 : Int) (j : Nat) : (if j = 2 then .int .i64 a2 else bw C v a j) = bw C v a2 j := by
  match j with
  | 0 => rfl
  | 1 => rfl
  | 2 => rfl
  | j + 3 => rfl
theorem bw_setC (C : Nat → Value) (v : Value) (a : Int) (i : Nat) (u : Value) (h1 : i ≠ 1) (h2 : i ≠ 2) (j : Nat) : (if j = i then u else bw C v a j) = bw (fun j => if j = i then u else C j) v a j := by
  match j with
  | 0 => rfl
  | 1 => rw [if_neg (by omega)]; rfl
  | 2 => rw [if_neg (by omega)]; rfl
  | j + 3 => rfl
/-- block g is the document's bus: its wheel's slice v holds the events L, a Arms were let by; its other cells are C's -/
structure Wb (C : Nat → Value) (w : World) (g : Nat) (v : Value) (L : List Ev) (a : Int) : Prop where
  st : w.rowIs g 59 25 (bw C v a)
  ev : Ow w v L
  ne : v.ownBlock ≠ some g
section
variable {C : Nat → Value} {w w' : World} {g : Nat} {v : Value} {L : List Ev} {a : Int}
theorem Wb.c0 (h : Wb C w g v L a) : w.cell? ⟨g, 1, none⟩ = some v := h.st.cell (i := 1) (by omega)
theorem Wb.c1 (h : Wb C w g v L a) : w.cell? ⟨g, 2, none⟩ = some (.int .i64 a) := h.st.cell (i := 2) (by omega)
theorem Wb.cC (h : Wb C w g v L a) (j : Nat) (hj : j < 25) (h1 : j ≠ 1) (h2 : j ≠ 2) : w.cell? ⟨g, j, none⟩ = some (C j) := by
  have := h.st.cell (i := j) hj
  rwa [bw_other C v a h1 h2] at this
theorem Wb.fr {S : Nat → Prop} (h : Wb C w g v L a) (f : Fr S w w') (hs : ∀ k, Own g v k → ¬ S k) : Wb C w' g v L a :=
  ⟨h.st.of_block (f.block _ h.st.lt (hs g (.inl rfl))), h.ev.fr f (fun k hk => hs k (.inr hk)), h.ne⟩
theorem Wb.lt (h : Wb C w g v L a) : ∀ k, Own g v k → k < w.heap.size := by
  rintro k (rfl | hk)
  · exact h.st.lt
  · exact h.ev.lt k hk
theorem Wb.drewN (h : Wb C w g v L a) (n : Nat) : Wb C (w.drewN n) g v L a := h.fr ((Fr.refl (fun _ => False) w).drewN n) (fun _ _ => id)
theorem Wb.below (h : Wb C w g v L a) (b : Below w.heap.size w w') : Wb C w' g v L a := h.fr (Fr.of_below (S := fun _ => False) b) (fun _ _ => id)
/-- the slice is another one -/
theorem Wb.setV {v2 : Value} {L2 : List Ev} (h : w.rowIs g 59 25 (bw C v a)) (hv : Ow w v2 L2) (hn : v2.ownBlock ≠ some g) : Wb C (w.setCell ⟨g, 1, none⟩ v2) g v2 L2 a :=
  ⟨(h.set 1 v2).congr (fun j hj => bw_set1 C v v2 a j), hv.fr ((Fr.refl (fun k => k = g) w).setCell (x := ⟨g, 1, none⟩) (.inl rfl) v2) (fun k hk e => hn (e ▸ hk)), hn⟩
theorem Wb.setA (h : Wb C w g v L a) (a2 : Int) : Wb C (w.setCell ⟨g, 2, none⟩ (.int .i64 a2)) g v L a2 :=
  ⟨(h.st.set 2 _).congr (fun j hj => bw_set2 C v a a2 j), h.ev.fr ((Fr.refl (fun k => k = g) w).setCell (x := ⟨g, 2, none⟩) (.inl rfl) _) (fun k hk e => h.ne (e ▸ hk)), h.ne⟩
/-- one of the other cells is another one -/
theorem Wb.setC (h : Wb C w g v L a) (i : Nat) (u : Value) (h1 : i ≠ 1) (h2 : i ≠ 2) : Wb (fun j => if j = i then u else C j) (w.setCell ⟨g, i, none⟩ u) g v L a :=
  ⟨(h.st.set i _).congr (fun j hj => bw_setC C v a i u h1 h2 j), h.ev.fr ((Fr.refl (fun k => k = g) w).setCell (x := ⟨g, i, none⟩) (.inl rfl) _) (fun k hk e => h.ne (e ▸ hk)), h.ne⟩
theorem Wb.congr {C2 : Nat → Value} (h : Wb C w g v L a) (e : ∀ j, j < 25 → C j = C2 j) : Wb C2 w g v L a :=
  ⟨h.st.congr (fun j hj => by
    by_cases h1 : j = 1
    · subst h1; rfl
    · by_cases h2 : j = 2
      · subst h2; rfl
      · rw [bw_other C v a h1 h2, bw_other C2 v a h1 h2, e j hj]), h.ev, h.ne⟩
end
theorem Ch.setH (g : Nat) (v : Value) (w : World) (u : Value) : Ch g v v w (w.setCell ⟨g, 2, none⟩ u) := ⟨(Fr.refl (Own g v) w).setCell (x := ⟨g, 2, none⟩) (.inl (.inl rfl)) u, fun _ h => .inl h⟩
theorem Ch.setI (g : Nat) (v : Value) (w : World) (i : Nat) (u : Value) : Ch g v v w (w.setCell ⟨g, i, none⟩ u) := ⟨(Fr.refl (Own g v) w).setCell (x := ⟨g, i, none⟩) (.inl (.inl rfl)) u, fun _ h => .inl h⟩
/-- it returns x; the bus's wheel holds L2 now, a2 Arms were let by; its other cells are C's -/
def RetX (C : Nat → Value) (x : Value) (w : World) (g : Nat) (v : Value) (L2 : List Ev) (a2 : Int) (e : Ending) (w' : World) : Prop :=
  e = .returned x ∧ ∃ v2, Wb C w' g v2 L2 a2 ∧ Ch g v v2 w w'
end Go.Proofs.YtkfedihaldpgmaaGreat
