/-
  Chapter 14: a disk in memory, beside its wheel and its memory; the functions of package disk.
-/
import Derived.Test.YtifhnidcdfpabaaMk14
import Derived.Deep.RegionHeld3
namespace Go.Proofs.Ytifhnidcdfpabaa
open Go.RowKit
set_option linter.unusedVariables false
set_option linter.unusedSimpArgs false

def dk8 (d : Int) (g r y n : Nat) (z t c s : Int) : Nat → Value
  | 0 => .int .i64 d
  | 1 => .pointer (some ⟨g, 0, none⟩)
  | 2 => .pointer (some ⟨r, 0, none⟩)
  | 3 => .slice (some ⟨y, 0, none⟩) (64 * n) (64 * n)
  | 4 => .int .u32 z
  | 5 => .int .u32 t
  | 6 => .int .u32 c
  | _ => .int .u32 s
/-- block x is a disk of device d on the wheel in block g (its slice: v), the memory in block r, of p pages, and its bytes in block y, of n sectors (their blocks: O); it is S -/
structure Dk (w : World) (x g r y : Nat) (O : Nat → Prop) (p n : Nat) (d : Int) (v : Value) (S : DS) : Prop where
  row : w.rowIs x 87 8 (dk8 d g r y n S.z S.t S.c (sw S.bz S.dn S.er))
  wh : Wh 83 w g v (qL d S.q) S.a
  mm : Mk 85 w r y O p n S.C S.D
  xw : ¬ Own g v x
  xm : ¬ O x
  wm : ∀ k, Own g v k → ¬ O k
def OwnD (x g : Nat) (O : Nat → Prop) (v : Value) (k : Nat) : Prop := k = x ∨ Own g v k ∨ O k
/-- of what was there the mover's own blocks alone have turned -/
structure CD (x g : Nat) (O : Nat → Prop) (v v2 : Value) (w w' : World) : Prop where
  fr : Fr (OwnD x g O v) w w'
  nw : ∀ k, v2.ownBlock = some k → v.ownBlock = some k ∨ w.heap.size ≤ k
section
variable {w w' w1 w2 : World} {x g r y : Nat} {O : Nat → Prop} {p n : Nat} {d : Int} {v v2 v3 : Value} {S S2 : DS}
theorem CD.refl (x g : Nat) (O : Nat → Prop) (v : Value) (w : World) : CD x g O v v w w := ⟨Fr.refl _ _, fun _ h => .inl h⟩
theorem CD.of_ch (h : Ch g v v2 w w') : CD x g O v v2 w w' := ⟨h.fr.mono (fun _ e => .inr (.inl e)), h.nw⟩
theorem CD.of_mem (h : Fr O w w') : CD x g O v v w w' := ⟨h.mono (fun _ e => .inr (.inr e)), fun _ h => .inl h⟩
theorem CD.of_below (b : Below w.heap.size w w') : CD x g O v v w w' := ⟨Fr.of_below b, fun _ h => .inl h⟩
theorem CD.of_no (b : Fr (fun _ => False) w w') : CD x g O v v w w' := ⟨b.mono (fun _ e => e.elim), fun _ h => .inl h⟩
theorem CD.trans (h : CD x g O v v2 w w1) (k : CD x g O v2 v3 w1 w2) : CD x g O v v3 w w2 := by
  refine ⟨⟨k.fr.os.trans h.fr.os, k.fr.tape.trans h.fr.tape, k.fr.output.trans h.fr.output, Nat.le_trans h.fr.size k.fr.size, fun i hi hn => ?_⟩, fun i hi => ?_⟩
  · refine (k.fr.block i (Nat.lt_of_lt_of_le hi h.fr.size) ?_).trans (h.fr.block i hi hn)
    rintro (e | (e | e) | e)
    · exact hn (.inl e)
    · exact hn (.inr (.inl (.inl e)))
    · rcases h.nw i e with e | e
      · exact hn (.inr (.inl (.inr e)))
      · omega
    · exact hn (.inr (.inr e))
  · rcases k.nw i hi with e | e
    · exact h.nw i e
    · exact .inr (Nat.le_trans h.fr.size e)
theorem CD.set (x g : Nat) (O : Nat → Prop) (v : Value) (w : World) (i : Nat) (u : Value) : CD x g O v v w (w.setCell ⟨x, i, none⟩ u) := ⟨(Fr.refl (OwnD x g O v) w).setCell (x := ⟨x, i, none⟩) (.inl (show OwnD x g O v x from .inl rfl)) u, fun _ h => .inl h⟩
theorem CD.drewN (x g : Nat) (O : Nat → Prop) (v : Value) (w : World) (n : Nat) : CD x g O v v w (w.drewN n) := ⟨(Fr.refl (OwnD x g O v) w).drewN n, fun _ h => .inl h⟩
/-- its own blocks behind: its own ahead, or new -/
theorem CD.own (c : CD x g O v v2 w w1) : ∀ k, OwnD x g O v2 k → OwnD x g O v k ∨ w.heap.size ≤ k := by
  rintro k (e | (e | e) | e)
  · exact .inl (.inl e)
  · exact .inl (.inr (.inl (.inl e)))
  · rcases c.nw k e with e | e
    · exact .inl (.inr (.inl (.inr e)))
    · exact .inr e
  · exact .inl (.inr (.inr e))
theorem Dk.k0 (h : Dk w x g r y O p n d v S) : w.cell? ⟨x, 0, none⟩ = some (.int .i64 d) := h.row.cell (i := 0) (by omega)
theorem Dk.k1 (h : Dk w x g r y O p n d v S) : w.cell? ⟨x, 1, none⟩ = some (.pointer (some ⟨g, 0, none⟩)) := h.row.cell (i := 1) (by omega)
theorem Dk.k2 (h : Dk w x g r y O p n d v S) : w.cell? ⟨x, 2, none⟩ = some (.pointer (some ⟨r, 0, none⟩)) := h.row.cell (i := 2) (by omega)
theorem Dk.k3 (h : Dk w x g r y O p n d v S) : w.cell? ⟨x, 3, none⟩ = some (.slice (some ⟨y, 0, none⟩) (64 * n) (64 * n)) := h.row.cell (i := 3) (by omega)
theorem Dk.k4 (h : Dk w x g r y O p n d v S) : w.cell? ⟨x, 4, none⟩ = some (.int .u32 S.z) := h.row.cell (i := 4) (by omega)
theorem Dk.k5 (h : Dk w x g r y O p n d v S) : w.cell? ⟨x, 5, none⟩ = some (.int .u32 S.t) := h.row.cell (i := 5) (by omega)
theorem Dk.k6 (h : Dk w x g r y O p n d v S) : w.cell? ⟨x, 6, none⟩ = some (.int .u32 S.c) := h.row.cell (i := 6) (by omega)
theorem Dk.k7 (h : Dk w x g r y O p n d v S) : w.cell? ⟨x, 7, none⟩ = some (.int .u32 (sw S.bz S.dn S.er)) := h.row.cell (i := 7) (by omega)
theorem Dk.fr {Q : Nat → Prop} (h : Dk w x g r y O p n d v S) (f : Fr Q w w') (hs : ∀ k, OwnD x g O v k → ¬ Q k) : Dk w' x g r y O p n d v S :=
  ⟨h.row.of_block (f.block _ h.row.lt (hs x (.inl rfl))), h.wh.fr f (fun k hk => hs k (.inr (.inl hk))), h.mm.fr f (fun k hk => hs k (.inr (.inr hk))), h.xw, h.xm, h.wm⟩
theorem Dk.lt (h : Dk w x g r y O p n d v S) : ∀ k, OwnD x g O v k → k < w.heap.size := by
  rintro k (rfl | hk | hk)
  · exact h.row.lt
  · exact h.wh.lt k hk
  · exact h.mm.lt k hk
theorem Dk.drewN (h : Dk w x g r y O p n d v S) (k : Nat) : Dk (w.drewN k) x g r y O p n d v S := h.fr ((Fr.refl (fun _ => False) w).drewN k) (fun _ _ => id)
theorem Dk.no (h : Dk w x g r y O p n d v S) (f : Fr (fun _ => False) w w') : Dk w' x g r y O p n d v S := h.fr f (fun _ _ => id)
theorem Dk.below (h : Dk w x g r y O p n d v S) (b : Below w.heap.size w w') : Dk w' x g r y O p n d v S := h.no (Fr.of_below (S := fun _ => False) b)
/-- its wheel is another one -/
theorem Dk.wheel (h : Dk w x g r y O p n d v S) {q : Option (Int × Int)} {a : Int} (hw : Wh 83 w' g v2 (qL d q) a) (hch : Ch g v v2 w w') : Dk w' x g r y O p n d v2 { S with q := q, a := a } := by
  refine ⟨h.row.of_block (hch.fr.block _ h.row.lt h.xw), hw, h.mm.fr hch.fr (fun k hk e => h.wm k e hk), ?_, h.xm, ?_⟩
  · rintro (e | e)
    · exact h.xw (.inl e)
    · rcases hch.nw _ e with e | e
      · exact h.xw (.inr e)
      · have := h.row.lt; omega
  · rintro k (e | e)
    · exact h.wm k (.inl e)
    · rcases hch.nw _ e with e | e
      · exact h.wm k (.inr e)
      · intro ho; have := h.mm.lt k ho; omega
/-- its memory or its own bytes have turned -/
theorem Dk.mem (h : Dk w x g r y O p n d v S) {C D : Nat → Int} (hm : Mk 85 w' r y O p n C D) (f : Fr O w w') : Dk w' x g r y O p n d v { S with C := C, D := D } :=
  ⟨h.row.of_block (f.block _ h.row.lt h.xm), h.wh.fr f (fun k hk => h.wm k hk), hm, h.xw, h.xm, h.wm⟩
theorem Dk.same (h : Dk w x g r y O p n d v S) (hr : w'.rowIs y 5 (64 * n) (fun i => .int .u8 (S.D i))) (hf : Fr (fun k => k = y) w w') : Dk w' x g r y O p n d v { S with C := S.C, D := S.D } := h.mem (h.mm.same hr hf) (h.mm.fr_row hf)
theorem Dk.setX (h : Dk w x g r y O p n d v S) (i : Nat) (u : Value) (z t c : Int) (bz dn er : Bool) (hu : ∀ j, j < 8 → (if j = i then u else dk8 d g r y n S.z S.t S.c (sw S.bz S.dn S.er) j) = dk8 d g r y n z t c (sw bz dn er) j) :
    Dk (w.setCell ⟨x, i, none⟩ u) x g r y O p n d v { S with z := z, t := t, c := c, bz := bz, dn := dn, er := er } := by
  have fr : Fr (fun k => k = x) w (w.setCell ⟨x, i, none⟩ u) := (Fr.refl (fun k => k = x) w).setCell (x := ⟨x, i, none⟩) (.inl rfl) u
  exact ⟨(h.row.set i u).congr hu, h.wh.fr fr (fun k hk e => h.xw (e ▸ hk)), h.mm.fr fr (fun k hk e => h.xm (e ▸ hk)), h.xw, h.xm, h.wm⟩
theorem Dk.setZ (h : Dk w x g r y O p n d v S) (u : Int) : Dk (w.setCell ⟨x, 4, none⟩ (.int .u32 u)) x g r y O p n d v { S with z := u } :=
  h.setX 4 (.int .u32 u) u S.t S.c S.bz S.dn S.er (fun j hj => by
    have : j = 0 ∨ j = 1 ∨ j = 2 ∨ j = 3 ∨ j = 4 ∨ j = 5 ∨ j = 6 ∨ j = 7 := by omega
    rcases this with rfl | rfl | rfl | rfl | rfl | rfl | rfl | rfl <;> rfl)
theorem Dk.setT (h : Dk w x g r y O p n d v S) (u : Int) : Dk (w.setCell ⟨x, 5, none⟩ (.int .u32 u)) x g r y O p n d v { S with t := u } :=
  h.setX 5 (.int .u32 u) S.z u S.c S.bz S.dn S.er (fun j hj => by
    have : j = 0 ∨ j = 1 ∨ j = 2 ∨ j = 3 ∨ j = 4 ∨ j = 5 ∨ j = 6 ∨ j = 7 := by omega
    rcases this with rfl | rfl | rfl | rfl | rfl | rfl | rfl | rfl <;> rfl)
theorem Dk.setN (h : Dk w x g r y O p n d v S) (u : Int) : Dk (w.setCell ⟨x, 6, none⟩ (.int .u32 u)) x g r y O p n d v { S with c := u } :=
  h.setX 6 (.int .u32 u) S.z S.t u S.bz S.dn S.er (fun j hj => by
    have : j = 0 ∨ j = 1 ∨ j = 2 ∨ j = 3 ∨ j = 4 ∨ j = 5 ∨ j = 6 ∨ j = 7 := by omega
    rcases this with rfl | rfl | rfl | rfl | rfl | rfl | rfl | rfl <;> rfl)
theorem Dk.setS (h : Dk w x g r y O p n d v S) (u : Int) (bz dn er : Bool) (hn : u = sw bz dn er) : Dk (w.setCell ⟨x, 7, none⟩ (.int .u32 u)) x g r y O p n d v { S with bz := bz, dn := dn, er := er } := by
  subst hn
  exact h.setX 7 (.int .u32 (sw bz dn er)) S.z S.t S.c bz dn er (fun j hj => by
    have : j = 0 ∨ j = 1 ∨ j = 2 ∨ j = 3 ∨ j = 4 ∨ j = 5 ∨ j = 6 ∨ j = 7 := by omega
    rcases this with rfl | rfl | rfl | rfl | rfl | rfl | rfl | rfl <;> rfl)
end
/-- it returns u; the disk is S2 then -/
def RetD (u : Value) (w : World) (x g r y : Nat) (O : Nat → Prop) (p n : Nat) (d : Int) (v : Value) (S2 : DS) (e : Ending) (w' : World) : Prop :=
  e = .returned u ∧ ∃ v2, Dk w' x g r y O p n d v2 S2 ∧ CD x g O v v2 w w'
/-- how many sectors so many bytes need -/
def nS (len : Nat) : Nat := min ((len + 63) / 64) 64
/-- a disk's bytes: len bytes f, and 0 -/
def imD (len : Nat) (f : Nat → Int) : Nat → Int := fun i => if i < min len (64 * nS len) then f i else 0
def S00 (C D : Nat → Int) : DS := ⟨0, 0, 0, false, false, false, none, 0, C, D⟩
theorem imD_bd {len : Nat} {f : Nat → Int} (h : ∀ j, j < len → 0 ≤ f j ∧ f j ≤ 255) (i : Nat) : 0 ≤ imD len f i ∧ imD len f i ≤ 255 := by
  unfold imD
  split
  · exact h i (by omega)
  · omega
/-- a disk in a new block -/
theorem dk_new {w : World} {g r y : Nat} {M : Nat → Prop} {p n : Nat} {C D : Nat → Int} (d : Int) (hw : Wh 83 w g (.slice none 0 0) [] 0) (hm : Ra 85 w r M p C) (hs : ¬ M g) (hr : w.rowIs y 5 (64 * n) (fun i => .int .u8 (D i))) (hD : ∀ i, 0 ≤ D i ∧ D i ≤ 255) (hy : ¬ M y) (hyg : y ≠ g) :
    Dk (w.alloc (.cells #[.int .i64 d, .pointer (some ⟨g, 0, none⟩), .pointer (some ⟨r, 0, none⟩), .slice (some ⟨y, 0, none⟩) (64 * n) (64 * n), .int .u32 0, .int .u32 0, .int .u32 0, .int .u32 0] 87)) w.heap.size g r y (fun k => M k ∨ k = y) p n d (.slice none 0 0) (S00 C D) := by
  have hb : Below w.heap.size w (w.alloc (.cells #[.int .i64 d, .pointer (some ⟨g, 0, none⟩), .pointer (some ⟨r, 0, none⟩), .slice (some ⟨y, 0, none⟩) (64 * n) (64 * n), .int .u32 0, .int .u32 0, .int .u32 0, .int .u32 0] 87)) := (Below.refl _ _).alloc (Nat.le_refl _) _
  have hg := hw.lt g (.inl rfl)
  refine ⟨World.rowIs_alloc w _ _ _ fun i hi => ?_, hw.below hb, ⟨M, rfl, hy, hm.below hb, hr.alloc _, hD⟩, ?_, ?_, ?_⟩
  · have : i = 0 ∨ i = 1 ∨ i = 2 ∨ i = 3 ∨ i = 4 ∨ i = 5 ∨ i = 6 ∨ i = 7 := by have : i < 8 := hi; omega
    rcases this with rfl | rfl | rfl | rfl | rfl | rfl | rfl | rfl <;> rfl
  · rintro (e | e)
    · omega
    · cases e
  · rintro (e | e)
    · exact Nat.lt_irrefl _ (hm.lt _ e)
    · exact Nat.lt_irrefl _ (e ▸ hr.lt)
  · rintro k (rfl | e)
    · rintro (e | e)
      · exact hs e
      · exact hyg e.symm
    · cases e
end Go.Proofs.Ytifhnidcdfpabaa
