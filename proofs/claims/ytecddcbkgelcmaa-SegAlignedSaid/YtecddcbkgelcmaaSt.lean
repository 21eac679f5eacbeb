/-
  A processor's State in memory: one block of 73 cells; what it holds is told by a structure of plain numbers. Loads and stores of it whole.
-/
import Derived.Test.YtecddcbkgelcmaaFr
import Derived.Laws.Rows
import Derived.Laws.Tables
import Derived.Laws.StructEq
import Derived.Deep.WholeRow
import Derived.Deep.MidRow
import Derived.DeepKeys
namespace Go.Proofs.Ytecddcbkgelcmaa
open Go.RowKit
set_option linter.unusedVariables false

/-- what a State holds -/
structure St where
  R : Nat → Int
  Hi : Int
  Lo : Int
  PC : Int
  Next : Int
  Slot : Bool
  Link : Bool
  Linked : Int
  C : Nat → Int
  H : Nat → Int
  L : Nat → Int
  Waits : Bool
  Time : Int
/-- a word -/
def W32 (x : Int) : Prop := 0 ≤ x ∧ x < 4294967296
/-- a time -/
def W64 (x : Int) : Prop := -9223372036854775808 ≤ x ∧ x < 9223372036854775808
/-- its numbers are words -/
structure St.Ok (s : St) : Prop where
  r : ∀ i, W32 (s.R i)
  hi : W32 s.Hi
  lo : W32 s.Lo
  pc : W32 s.PC
  nx : W32 s.Next
  lk : W32 s.Linked
  c : ∀ i, W32 (s.C i)
  h : ∀ i, W32 (s.H i)
  l : ∀ i, W32 (s.L i)
  t : W64 s.Time
/-- its cells -/
def St.cell (s : St) (j : Nat) : Value :=
  if j < 32 then .int .u32 (s.R j)
  else if j = 32 then .int .u32 s.Hi
  else if j = 33 then .int .u32 s.Lo
  else if j = 34 then .int .u32 s.PC
  else if j = 35 then .int .u32 s.Next
  else if j = 36 then .bool s.Slot
  else if j = 37 then .bool s.Link
  else if j = 38 then .int .u32 s.Linked
  else if j < 55 then .int .u32 (s.C (j - 39))
  else if j < 71 then (if (j - 55) % 2 = 0 then .int .u32 (s.H ((j - 55) / 2)) else .int .u32 (s.L ((j - 55) / 2)))
  else if j = 71 then .bool s.Waits
  else .int .i64 s.Time
def St.arr (s : St) : Array Value := Array.ofFn (n := 73) fun i => s.cell i.val
theorem St.arr_size (s : St) : s.arr.size = 73 := by simp [St.arr]
theorem St.arr_at (s : St) (j : Nat) (h : j < 73) : s.arr[j]? = some (s.cell j) := by simp [St.arr, h]
/-- block g is a State that holds s -/
structure StAt (w : World) (g : Nat) (s : St) : Prop where
  blk : w.heap[g]? = some (.cells s.arr 30 (0, 0))
  ok : s.Ok
section
variable {w w' : World} {g : Nat} {s : St}
theorem StAt.lt (h : StAt w g s) : g < w.heap.size := (Array.getElem?_eq_some_iff.1 h.blk).1
theorem StAt.cellAt (h : StAt w g s) (j : Nat) (hj : j < 73) : w.cell? ⟨g, j, none⟩ = some (s.cell j) := by
  rw [cell_of_row w g j _ _ _ h.blk, s.arr_at j hj]
theorem StAt.frozenAt (h : StAt w g s) (j : Nat) : w.frozen? ⟨g, j, none⟩ = false := frozen_of_row w g j _ _ h.blk
theorem StAt.fr {S : Nat → Prop} (h : StAt w g s) (f : Fr S w w') (hg : ¬ S g) : StAt w' g s := ⟨(f.block g h.lt hg).trans h.blk, h.ok⟩
theorem StAt.drewN (h : StAt w g s) (n : Nat) : StAt (w.drewN n) g s := ⟨h.blk, h.ok⟩
theorem StAt.drew (h : StAt w g s) : StAt w.drew g s := ⟨h.blk, h.ok⟩
theorem StAt.alloc (h : StAt w g s) (o : Obj) : StAt (w.alloc o) g s := ⟨(Below.heap_alloc _ _ _ h.lt).trans h.blk, h.ok⟩
theorem StAt.setOther (h : StAt w g s) {a : Addr} (ha : g ≠ a.block) (v : Value) : StAt (w.setCell a v) g s := ⟨(heap_setCell_other w a g v ha).trans h.blk, h.ok⟩
theorem arr_set (s s' : St) (i : Nat) (v : Value) (e : ∀ j, j < 73 → s'.cell j = if j = i then v else s.cell j) : s.arr.setIfInBounds i v = s'.arr := by
  apply Array.ext_getElem?
  intro j
  rw [Array.getElem?_setIfInBounds]
  by_cases hj : j < 73
  · rw [s'.arr_at j hj, e j hj]
    by_cases hi : i = j
    · subst hi; simp [s.arr_size, hj]
    · rw [if_neg hi, if_neg (fun x => hi x.symm), s.arr_at j hj]
  · have h1 : s'.arr[j]? = none := Array.getElem?_eq_none (by rw [s'.arr_size]; omega)
    have h2 : s.arr[j]? = none := Array.getElem?_eq_none (by rw [s.arr_size]; omega)
    rw [h1]
    by_cases hi : i = j
    · subst hi; rw [if_pos rfl, if_neg (by rw [s.arr_size]; omega)]
    · rw [if_neg hi, h2]
theorem StAt.put {s' : St} (h : StAt w g s) (i : Nat) (v : Value) (ok : s'.Ok) (e : ∀ j, j < 73 → s'.cell j = if j = i then v else s.cell j) : StAt (w.setCell ⟨g, i, none⟩ v) g s' :=
  ⟨by rw [heap_setCell_same w g i _ _ v h.blk, arr_set s s' i v e], ok⟩
end
/-! its cells by their numbers -/
theorem St.cellC (s : St) (n : Nat) (hn : n < 16) : s.cell (39 + n) = .int .u32 (s.C n) := by
  unfold St.cell
  rw [if_neg (by omega), if_neg (by omega), if_neg (by omega), if_neg (by omega), if_neg (by omega), if_neg (by omega), if_neg (by omega), if_neg (by omega), if_pos (by omega), Nat.add_sub_cancel_left]
theorem St.cellR (s : St) (n : Nat) (hn : n < 32) : s.cell n = .int .u32 (s.R n) := by
  unfold St.cell
  rw [if_pos hn]
theorem St.cellH (s : St) (n : Nat) (hn : n < 8) : s.cell (55 + n * 2) = .int .u32 (s.H n) := by
  unfold St.cell
  rw [if_neg (by omega), if_neg (by omega), if_neg (by omega), if_neg (by omega), if_neg (by omega), if_neg (by omega), if_neg (by omega), if_neg (by omega), if_neg (by omega), if_pos (by omega), if_pos (by omega), show (55 + n * 2 - 55) / 2 = n by omega]
theorem St.cellL (s : St) (n : Nat) (hn : n < 8) : s.cell (55 + n * 2 + 1) = .int .u32 (s.L n) := by
  unfold St.cell
  rw [if_neg (by omega), if_neg (by omega), if_neg (by omega), if_neg (by omega), if_neg (by omega), if_neg (by omega), if_neg (by omega), if_neg (by omega), if_neg (by omega), if_pos (by omega), if_neg (by omega), show (55 + n * 2 + 1 - 55) / 2 = n by omega]
/-! one thing of a State set -/
def St.setC (s : St) (n : Nat) (x : Int) : St := { s with C := fun j => if j = n then x else s.C j }
def St.setR (s : St) (n : Nat) (x : Int) : St := { s with R := fun j => if j = n then x else s.R j }
def St.setH (s : St) (n : Nat) (x : Int) : St := { s with H := fun j => if j = n then x else s.H j }
def St.setL (s : St) (n : Nat) (x : Int) : St := { s with L := fun j => if j = n then x else s.L j }
def St.setPC (s : St) (x : Int) : St := { s with PC := x }
def St.setNext (s : St) (x : Int) : St := { s with Next := x }
def St.setSlot (s : St) (x : Bool) : St := { s with Slot := x }
def St.setLink (s : St) (x : Bool) : St := { s with Link := x }
def St.setLinked (s : St) (x : Int) : St := { s with Linked := x }
def St.setHi (s : St) (x : Int) : St := { s with Hi := x }
def St.setLo (s : St) (x : Int) : St := { s with Lo := x }
def St.setWaits (s : St) (x : Bool) : St := { s with Waits := x }
def St.setTime (s : St) (x : Int) : St := { s with Time := x }
section
variable {w : World} {g : Nat} {s : St}
theorem if_all {P : Int → Prop} {f : Nat → Int} (h : ∀ i, P (f i)) (n : Nat) {x : Int} (hx : P x) : ∀ i, P (if i = n then x else f i) := by
  intro i; split; exact hx; exact h i
theorem StAt.setC (h : StAt w g s) (n : Nat) (hn : n < 16) (x : Int) (hx : W32 x) : StAt (w.setCell ⟨g, 39 + n, none⟩ (.int .u32 x)) g (s.setC n x) :=
  h.put _ _ { h.ok with c := if_all h.ok.c n hx } (by
    intro j hj
    by_cases e : j = 39 + n
    · subst e; rw [if_pos rfl]; rw [St.cellC _ n hn]; simp [St.setC]
    · rw [if_neg e]
      simp only [St.setC, St.cell]
      repeat' first | rfl | (apply ite_congr rfl <;> intro _)
      all_goals first | (exfalso; omega) | (rw [if_neg (by omega)]))
theorem StAt.setR (h : StAt w g s) (n : Nat) (hn : n < 32) (x : Int) (hx : W32 x) : StAt (w.setCell ⟨g, n, none⟩ (.int .u32 x)) g (s.setR n x) :=
  h.put _ _ { h.ok with r := if_all h.ok.r n hx } (by
    intro j hj
    by_cases e : j = n
    · subst e; rw [if_pos rfl]; rw [St.cellR _ j hn]; simp [St.setR]
    · rw [if_neg e]
      simp only [St.setR, St.cell]
      repeat' first | rfl | (apply ite_congr rfl <;> intro _)
      all_goals first | (exfalso; omega) | (rw [if_neg (by omega)]))
theorem StAt.setH (h : StAt w g s) (n : Nat) (hn : n < 8) (x : Int) (hx : W32 x) : StAt (w.setCell ⟨g, 55 + n * 2, none⟩ (.int .u32 x)) g (s.setH n x) :=
  h.put _ _ { h.ok with h := if_all h.ok.h n hx } (by
    intro j hj
    by_cases e : j = 55 + n * 2
    · subst e; rw [if_pos rfl]; rw [St.cellH _ n hn]; simp [St.setH]
    · rw [if_neg e]
      simp only [St.setH, St.cell]
      repeat' first | rfl | (apply ite_congr rfl <;> intro _)
      all_goals first | (exfalso; omega) | (rw [if_neg (by omega)]))
theorem StAt.setL (h : StAt w g s) (n : Nat) (hn : n < 8) (x : Int) (hx : W32 x) : StAt (w.setCell ⟨g, 55 + n * 2 + 1, none⟩ (.int .u32 x)) g (s.setL n x) :=
  h.put _ _ { h.ok with l := if_all h.ok.l n hx } (by
    intro j hj
    by_cases e : j = 55 + n * 2 + 1
    · subst e; rw [if_pos rfl]; rw [St.cellL _ n hn]; simp [St.setL]
    · rw [if_neg e]
      simp only [St.setL, St.cell]
      repeat' first | rfl | (apply ite_congr rfl <;> intro _)
      all_goals first | (exfalso; omega) | (rw [if_neg (by omega)]))
theorem StAt.setPC (h : StAt w g s) (x : Int) (hx : W32 x) : StAt (w.setCell ⟨g, 34, none⟩ (.int .u32 x)) g (s.setPC x) :=
  h.put _ _ { h.ok with pc := hx } (by
    intro j hj
    by_cases e : j = 34
    · subst e; rw [if_pos rfl]; rfl
    · rw [if_neg e]
      simp only [St.setPC, St.cell]
      repeat' first | rfl | (apply ite_congr rfl <;> intro _)
      all_goals first | (exfalso; omega) | (rw [if_neg (by omega)]))
theorem StAt.setNext (h : StAt w g s) (x : Int) (hx : W32 x) : StAt (w.setCell ⟨g, 35, none⟩ (.int .u32 x)) g (s.setNext x) :=
  h.put _ _ { h.ok with nx := hx } (by
    intro j hj
    by_cases e : j = 35
    · subst e; rw [if_pos rfl]; rfl
    · rw [if_neg e]
      simp only [St.setNext, St.cell]
      repeat' first | rfl | (apply ite_congr rfl <;> intro _)
      all_goals first | (exfalso; omega) | (rw [if_neg (by omega)]))
theorem StAt.setSlot (h : StAt w g s) (x : Bool) : StAt (w.setCell ⟨g, 36, none⟩ (.bool x)) g (s.setSlot x) :=
  h.put _ _ { h.ok with  } (by
    intro j hj
    by_cases e : j = 36
    · subst e; rw [if_pos rfl]; rfl
    · rw [if_neg e]
      simp only [St.setSlot, St.cell]
      repeat' first | rfl | (apply ite_congr rfl <;> intro _)
      all_goals first | (exfalso; omega) | (rw [if_neg (by omega)]))
theorem StAt.setLink (h : StAt w g s) (x : Bool) : StAt (w.setCell ⟨g, 37, none⟩ (.bool x)) g (s.setLink x) :=
  h.put _ _ { h.ok with  } (by
    intro j hj
    by_cases e : j = 37
    · subst e; rw [if_pos rfl]; rfl
    · rw [if_neg e]
      simp only [St.setLink, St.cell]
      repeat' first | rfl | (apply ite_congr rfl <;> intro _)
      all_goals first | (exfalso; omega) | (rw [if_neg (by omega)]))
theorem StAt.setLinked (h : StAt w g s) (x : Int) (hx : W32 x) : StAt (w.setCell ⟨g, 38, none⟩ (.int .u32 x)) g (s.setLinked x) :=
  h.put _ _ { h.ok with lk := hx } (by
    intro j hj
    by_cases e : j = 38
    · subst e; rw [if_pos rfl]; rfl
    · rw [if_neg e]
      simp only [St.setLinked, St.cell]
      repeat' first | rfl | (apply ite_congr rfl <;> intro _)
      all_goals first | (exfalso; omega) | (rw [if_neg (by omega)]))
theorem StAt.setHi (h : StAt w g s) (x : Int) (hx : W32 x) : StAt (w.setCell ⟨g, 32, none⟩ (.int .u32 x)) g (s.setHi x) :=
  h.put _ _ { h.ok with hi := hx } (by
    intro j hj
    by_cases e : j = 32
    · subst e; rw [if_pos rfl]; rfl
    · rw [if_neg e]
      simp only [St.setHi, St.cell]
      repeat' first | rfl | (apply ite_congr rfl <;> intro _)
      all_goals first | (exfalso; omega) | (rw [if_neg (by omega)]))
theorem StAt.setLo (h : StAt w g s) (x : Int) (hx : W32 x) : StAt (w.setCell ⟨g, 33, none⟩ (.int .u32 x)) g (s.setLo x) :=
  h.put _ _ { h.ok with lo := hx } (by
    intro j hj
    by_cases e : j = 33
    · subst e; rw [if_pos rfl]; rfl
    · rw [if_neg e]
      simp only [St.setLo, St.cell]
      repeat' first | rfl | (apply ite_congr rfl <;> intro _)
      all_goals first | (exfalso; omega) | (rw [if_neg (by omega)]))
theorem StAt.setWaits (h : StAt w g s) (x : Bool) : StAt (w.setCell ⟨g, 71, none⟩ (.bool x)) g (s.setWaits x) :=
  h.put _ _ { h.ok with  } (by
    intro j hj
    by_cases e : j = 71
    · subst e; rw [if_pos rfl]; rfl
    · rw [if_neg e]
      simp only [St.setWaits, St.cell]
      repeat' first | rfl | (apply ite_congr rfl <;> intro _)
      all_goals first | (exfalso; omega) | (rw [if_neg (by omega)]))
theorem StAt.setTime (h : StAt w g s) (x : Int) (hx : W64 x) : StAt (w.setCell ⟨g, 72, none⟩ (.int .i64 x)) g (s.setTime x) :=
  h.put _ _ { h.ok with t := hx } (by
    intro j hj
    by_cases e : j = 72
    · subst e; rw [if_pos rfl]; rfl
    · rw [if_neg e]
      simp only [St.setTime, St.cell]
      repeat' first | rfl | (apply ite_congr rfl <;> intro _)
      all_goals first | (exfalso; omega) | (rw [if_neg (by omega)]))
/-! its cells, one by one -/
theorem StAt.cC (h : StAt w g s) (n : Nat) (hn : n < 16) : w.cell? ⟨g, 39 + n, none⟩ = some (.int .u32 (s.C n)) := by
  rw [h.cellAt (39 + n) (by omega), s.cellC n hn]
theorem StAt.cR (h : StAt w g s) (n : Nat) (hn : n < 32) : w.cell? ⟨g, n, none⟩ = some (.int .u32 (s.R n)) := by
  rw [h.cellAt n (by omega), s.cellR n hn]
theorem StAt.cH (h : StAt w g s) (n : Nat) (hn : n < 8) : w.cell? ⟨g, 55 + n * 2, none⟩ = some (.int .u32 (s.H n)) := by
  rw [h.cellAt _ (by omega), s.cellH n hn]
theorem StAt.cL (h : StAt w g s) (n : Nat) (hn : n < 8) : w.cell? ⟨g, 55 + n * 2 + 1, none⟩ = some (.int .u32 (s.L n)) := by
  rw [h.cellAt _ (by omega), s.cellL n hn]
theorem StAt.cPC (h : StAt w g s) : w.cell? ⟨g, 34, none⟩ = some (.int .u32 s.PC) := h.cellAt 34 (by omega)
theorem StAt.cNext (h : StAt w g s) : w.cell? ⟨g, 35, none⟩ = some (.int .u32 s.Next) := h.cellAt 35 (by omega)
theorem StAt.cSlot (h : StAt w g s) : w.cell? ⟨g, 36, none⟩ = some (.bool s.Slot) := h.cellAt 36 (by omega)
theorem StAt.cLink (h : StAt w g s) : w.cell? ⟨g, 37, none⟩ = some (.bool s.Link) := h.cellAt 37 (by omega)
theorem StAt.cLinked (h : StAt w g s) : w.cell? ⟨g, 38, none⟩ = some (.int .u32 s.Linked) := h.cellAt 38 (by omega)
theorem StAt.cHi (h : StAt w g s) : w.cell? ⟨g, 32, none⟩ = some (.int .u32 s.Hi) := h.cellAt 32 (by omega)
theorem StAt.cLo (h : StAt w g s) : w.cell? ⟨g, 33, none⟩ = some (.int .u32 s.Lo) := h.cellAt 33 (by omega)
theorem StAt.cWaits (h : StAt w g s) : w.cell? ⟨g, 71, none⟩ = some (.bool s.Waits) := h.cellAt 71 (by omega)
theorem StAt.cTime (h : StAt w g s) : w.cell? ⟨g, 72, none⟩ = some (.int .i64 s.Time) := h.cellAt 72 (by omega)
end
end Go.Proofs.Ytecddcbkgelcmaa
