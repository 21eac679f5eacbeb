/-
  Chapter 15: the document's bus, all its devices in one state.
-/
import Derived.Test.YtkfedihaldpgmaaGreatPre15
namespace Go.Proofs.YtkfedihaldpgmaaGreat
open Go.RowKit
set_option linter.unusedVariables false
set_option linter.unusedSimpArgs false
/-- a timer's control: it runs, it comes again -/
def cwB (r g : Bool) : Int := match r, g with
  | false, false => 0
  | true, false => 1
  | false, true => 2
  | true, true => 3
def ibB (b : Bool) : Int := match b with
  | true => 1
  | false => 0
/-- what a bus is: the timers (runs, again, period, status), the uart (came, to go, out; lost, control), the mover, the disk, the lines; what is due, the next number; memory's bytes, the disk's -/
structure BS where
  r0 : Bool
  g0 : Bool
  p0 : Int
  s0 : Bool
  r1 : Bool
  g1 : Bool
  p1 : Int
  s1 : Bool
  came : List Int
  goes : List Int
  out : List Int
  lost : Bool
  uc : Int
  f : Int
  t : Int
  n : Int
  bz : Bool
  dn : Bool
  er : Bool
  z : Int
  kt : Int
  kc : Int
  kz : Bool
  kd : Bool
  ke : Bool
  up : Int
  ask : Int
  L : List Ev
  a : Int
  C : Nat → Int
  D : Nat → Int
/-- the slices that a bus owns: the wheel's, what came, what is to go, what went -/
structure SV where
  u : Value
  c : Value
  g : Value
  o : Value
/-- a bus's cells beside its wheel's two -/
def cB (r y n : Nat) (V : SV) (S : BS) : Nat → Value
  | 1 => .bool false
  | 2 => .bool false
  | 0 => .pointer (some ⟨r, 0, none⟩)
  | 3 => .int .u32 (cwB S.r0 S.g0)
  | 4 => .int .u32 S.p0
  | 5 => .int .u32 (ibB S.s0)
  | 6 => .int .u32 (cwB S.r1 S.g1)
  | 7 => .int .u32 S.p1
  | 8 => .int .u32 (ibB S.s1)
  | 9 => V.c
  | 10 => V.g
  | 11 => .bool S.lost
  | 12 => .int .u32 S.uc
  | 13 => V.o
  | 14 => .int .u32 S.f
  | 15 => .int .u32 S.t
  | 16 => .int .u32 S.n
  | 17 => .int .u32 (sw S.bz S.dn S.er)
  | 18 => .int .u32 S.z
  | 19 => .int .u32 S.kt
  | 20 => .int .u32 S.kc
  | 21 => .int .u32 (sw S.kz S.kd S.ke)
  | 22 => .slice (some ⟨y, 0, none⟩) (64 * n) (64 * n)
  | 23 => .int .u32 S.up
  | _ => .int .u32 S.ask
/-- a slice of bytes of one's own -/
def Ob (w : World) (v : Value) (L : List Int) : Prop := w.ownsRow 0 5 1 v L.length (L.map (Value.int .u8)) ∧ ∀ x ∈ L, 0 ≤ x ∧ x ≤ 255
theorem Ob.fr {Q : Nat → Prop} {w w' : World} {v : Value} {L : List Int} (h : Ob w v L) (f : Fr Q w w') (hs : ∀ k, v.ownBlock = some k → ¬ Q k) : Ob w' v L := by
  refine ⟨⟨h.1.1, ?_⟩, h.2⟩
  rcases h.1.2 with h2 | ⟨g, cap, cur, rfl, hb, hh, r⟩
  · exact .inl h2
  · have hl : g < w.heap.size := (Array.getElem?_eq_some_iff.1 hh).1
    exact .inr ⟨g, cap, cur, rfl, hb, (f.block g hl (hs g rfl)).trans hh, r⟩
theorem Ob.lt {w : World} {v : Value} {L : List Int} (h : Ob w v L) : ∀ k, v.ownBlock = some k → k < w.heap.size := fun k hk => (World.ownsRow.lt h.1 k hk).2
/-- the bus's own blocks, by parts -/
def KB (m : Nat) (O : Nat → Prop) (V : SV) : Nat → Nat → Prop
  | 0, k => k = m
  | 1, k => V.u.ownBlock = some k
  | 2, k => V.c.ownBlock = some k
  | 3, k => V.g.ownBlock = some k
  | 4, k => V.o.ownBlock = some k
  | _, k => O k
def Sep (K : Nat → Nat → Prop) : Prop := ∀ i j k, i < 6 → j < 6 → i ≠ j → K i k → ¬ K j k
/-- one part has turned, into itself or into what is new -/
theorem Sep.upd {K K2 : Nat → Nat → Prop} {B : Nat} (h : Sep K) (hlt : ∀ j k, j < 6 → K j k → k < B) (i : Nat) (h2 : ∀ j k, j < 6 → K2 j k → K j k ∨ (j = i ∧ B ≤ k)) : Sep K2 := by
  intro a b k ha hb hab hk hk2
  rcases h2 a k ha hk with e1 | ⟨rfl, e1⟩
  · rcases h2 b k hb hk2 with e2 | ⟨rfl, e2⟩
    · exact h a b k ha hb hab e1 e2
    · have := hlt a k ha e1; omega
  · rcases h2 b k hb hk2 with e2 | ⟨rfl, e2⟩
    · have := hlt b k hb e2; omega
    · exact hab rfl
/-- all the bus's own blocks -/
def OwnB (m : Nat) (O : Nat → Prop) (V : SV) (k : Nat) : Prop := ∃ i, i < 6 ∧ KB m O V i k
/-- block m is the document's bus: its memory is in block r, of p pages, its disk's bytes in block y, of n sectors (their blocks: O); its slices are V; it is S -/
structure Bx (w : World) (m r y : Nat) (O : Nat → Prop) (p n : Nat) (V : SV) (S : BS) : Prop where
  wb : Wb (cB r y n V S) w m V.u S.L S.a
  oc : Ob w V.c S.came
  og : Ob w V.g S.goes
  oo : Ob w V.o S.out
  mm : Mk 62 w r y O p n S.C S.D
  sep : Sep (KB m O V)
/-- of what was there the bus's own blocks alone have turned -/
structure CB (m : Nat) (O : Nat → Prop) (V V2 : SV) (w w' : World) : Prop where
  fr : Fr (OwnB m O V) w w'
  nw : ∀ k, OwnB m O V2 k → OwnB m O V k ∨ w.heap.size ≤ k
/-- it returns v; the bus is S2 then -/
def RetN (v : Value) (w : World) (m r y : Nat) (O : Nat → Prop) (p n : Nat) (V : SV) (S2 : BS) (e : Ending) (w' : World) : Prop :=
  e = .returned v ∧ ∃ V2, Bx w' m r y O p n V2 S2 ∧ CB m O V V2 w w'
section
variable {w w' w1 w2 : World} {m r y : Nat} {O : Nat → Prop} {p n : Nat} {V V2 V3 : SV} {S S2 : BS}
theorem CB.refl (m : Nat) (O : Nat → Prop) (V : SV) (w : World) : CB m O V V w w := ⟨Fr.refl _ _, fun _ h => .inl h⟩
theorem CB.trans (h : CB m O V V2 w w1) (k : CB m O V2 V3 w1 w2) : CB m O V V3 w w2 := by
  refine ⟨⟨k.fr.os.trans h.fr.os, k.fr.tape.trans h.fr.tape, k.fr.output.trans h.fr.output, Nat.le_trans h.fr.size k.fr.size, fun i hi hn => ?_⟩, fun i hi => ?_⟩
  · refine (k.fr.block i (Nat.lt_of_lt_of_le hi h.fr.size) (fun e => ?_)).trans (h.fr.block i hi hn)
    rcases h.nw i e with e | e
    · exact hn e
    · omega
  · rcases k.nw i hi with e | e
    · exact h.nw i e
    · exact .inr (Nat.le_trans h.fr.size e)
theorem CB.of (h : Fr (OwnB m O V) w w') : CB m O V V w w' := ⟨h, fun _ h => .inl h⟩
theorem CB.of_no (b : Fr (fun _ => False) w w') : CB m O V V w w' := CB.of (b.mono fun _ e => e.elim)
theorem CB.of_below (b : Below w.heap.size w w') : CB m O V V w w' := CB.of (Fr.of_below b)
theorem CB.of_mem (h : Fr O w w') : CB m O V V w w' := CB.of (h.mono fun k e => ⟨5, by omega, e⟩)
theorem CB.drewN (m : Nat) (O : Nat → Prop) (V : SV) (w : World) (k : Nat) : CB m O V V w (w.drewN k) := CB.of ((Fr.refl _ w).drewN k)
theorem CB.set (m : Nat) (O : Nat → Prop) (V : SV) (w : World) (i : Nat) (v : Value) : CB m O V V w (w.setCell ⟨m, i, none⟩ v) := CB.of ((Fr.refl (OwnB m O V) w).setCell (x := ⟨m, i, none⟩) (.inl (show OwnB m O V m from ⟨0, by omega, rfl⟩)) v)
theorem CB.of_ch {u2 : Value} (h : Ch m V.u u2 w w') : CB m O V { V with u := u2 } w w' := by
  refine ⟨h.fr.mono fun k e => ?_, fun k hk => ?_⟩
  · rcases e with e | e
    · exact ⟨0, by omega, e⟩
    · exact ⟨1, by omega, e⟩
  · obtain ⟨i, hi, hk⟩ := hk
    match i, hi with
    | 0, _ => exact .inl ⟨0, by omega, hk⟩
    | 1, _ => rcases h.nw k hk with e | e
              · exact .inl ⟨1, by omega, e⟩
              · exact .inr e
    | 2, _ => exact .inl ⟨2, by omega, hk⟩
    | 3, _ => exact .inl ⟨3, by omega, hk⟩
    | 4, _ => exact .inl ⟨4, by omega, hk⟩
    | 5, _ => exact .inl ⟨5, by omega, hk⟩
theorem Bx.klt (h : Bx w m r y O p n V S) : ∀ j k, j < 6 → KB m O V j k → k < w.heap.size := by
  intro j k hj hk
  match j, hj with
  | 0, _ => exact (show k = m from hk) ▸ h.wb.st.lt
  | 1, _ => exact h.wb.ev.lt k hk
  | 2, _ => exact h.oc.lt k hk
  | 3, _ => exact h.og.lt k hk
  | 4, _ => exact h.oo.lt k hk
  | 5, _ => exact h.mm.lt k hk
theorem Bx.lt (h : Bx w m r y O p n V S) : ∀ k, OwnB m O V k → k < w.heap.size := fun k ⟨i, hi, hk⟩ => h.klt i k hi hk
theorem Bx.fr {Q : Nat → Prop} (h : Bx w m r y O p n V S) (f : Fr Q w w') (hs : ∀ k, OwnB m O V k → ¬ Q k) : Bx w' m r y O p n V S :=
  ⟨h.wb.fr f (fun k hk => by
    rcases hk with e | e
    · exact hs k ⟨0, by omega, e⟩
    · exact hs k ⟨1, by omega, e⟩), h.oc.fr f (fun k hk => hs k ⟨2, by omega, hk⟩), h.og.fr f (fun k hk => hs k ⟨3, by omega, hk⟩), h.oo.fr f (fun k hk => hs k ⟨4, by omega, hk⟩), h.mm.fr f (fun k hk => hs k ⟨5, by omega, hk⟩), h.sep⟩
theorem Bx.no (h : Bx w m r y O p n V S) (f : Fr (fun _ => False) w w') : Bx w' m r y O p n V S := h.fr f (fun _ _ => id)
theorem Bx.drewN (h : Bx w m r y O p n V S) (k : Nat) : Bx (w.drewN k) m r y O p n V S := h.no ((Fr.refl (fun _ => False) w).drewN k)
theorem Bx.below (h : Bx w m r y O p n V S) (b : Below w.heap.size w w') : Bx w' m r y O p n V S := h.no (Fr.of_below (S := fun _ => False) b)
/-- its wheel is another one -/
theorem Bx.wheel {u2 : Value} {L : List Ev} {a : Int} (h : Bx w m r y O p n V S) (hw : Wb (cB r y n V S) w' m u2 L a) (hch : Ch m V.u u2 w w') : Bx w' m r y O p n { V with u := u2 } { S with L := L, a := a } := by
  have hq : ∀ i k, i < 6 → 2 ≤ i → KB m O V i k → ¬ Own m V.u k := by
    intro i k hi h2 hk e
    rcases e with e | e
    · exact h.sep i 0 k hi (by omega) (by omega) hk e
    · exact h.sep i 1 k hi (by omega) (by omega) hk e
  refine ⟨hw.congr fun j hj => ?_, h.oc.fr hch.fr (fun k hk => hq 2 k (by omega) (by omega) hk), h.og.fr hch.fr (fun k hk => hq 3 k (by omega) (by omega) hk), h.oo.fr hch.fr (fun k hk => hq 4 k (by omega) (by omega) hk), h.mm.fr hch.fr (fun k hk => hq 5 k (by omega) (by omega) hk), h.sep.upd (B := w.heap.size) h.klt 1 ?_⟩
  · have : j = 0 ∨ j = 1 ∨ j = 2 ∨ j = 3 ∨ j = 4 ∨ j = 5 ∨ j = 6 ∨ j = 7 ∨ j = 8 ∨ j = 9 ∨ j = 10 ∨ j = 11 ∨ j = 12 ∨ j = 13 ∨ j = 14 ∨ j = 15 ∨ j = 16 ∨ j = 17 ∨ j = 18 ∨ j = 19 ∨ j = 20 ∨ j = 21 ∨ j = 22 ∨ j = 23 ∨ j = 24 := by omega
    rcases this with rfl | rfl | rfl | rfl | rfl | rfl | rfl | rfl | rfl | rfl | rfl | rfl | rfl | rfl | rfl | rfl | rfl | rfl | rfl | rfl | rfl | rfl | rfl | rfl | rfl <;> rfl
  · intro j k hj hk
    match j, hj with
    | 0, _ => exact .inl hk
    | 1, _ => rcases hch.nw k hk with e | e
              · exact .inl e
              · exact .inr ⟨rfl, e⟩
    | 2, _ => exact .inl hk
    | 3, _ => exact .inl hk
    | 4, _ => exact .inl hk
    | 5, _ => exact .inl hk
/-- its memory or its disk's bytes have turned -/
theorem Bx.mem {C D : Nat → Int} (h : Bx w m r y O p n V S) (hm : Mk 62 w' r y O p n C D) (f : Fr O w w') : Bx w' m r y O p n V { S with C := C, D := D } := by
  have hq : ∀ i k, i < 5 → KB m O V i k → ¬ O k := fun i k hi hk e => h.sep i 5 k (by omega) (by omega) (by omega) hk e
  refine ⟨(h.wb.fr f (fun k hk => ?_)).congr fun j hj => ?_, h.oc.fr f (fun k hk => hq 2 k (by omega) hk), h.og.fr f (fun k hk => hq 3 k (by omega) hk), h.oo.fr f (fun k hk => hq 4 k (by omega) hk), hm, h.sep⟩
  · rcases hk with e | e
    · exact hq 0 k (by omega) e
    · exact hq 1 k (by omega) e
  · have : j = 0 ∨ j = 1 ∨ j = 2 ∨ j = 3 ∨ j = 4 ∨ j = 5 ∨ j = 6 ∨ j = 7 ∨ j = 8 ∨ j = 9 ∨ j = 10 ∨ j = 11 ∨ j = 12 ∨ j = 13 ∨ j = 14 ∨ j = 15 ∨ j = 16 ∨ j = 17 ∨ j = 18 ∨ j = 19 ∨ j = 20 ∨ j = 21 ∨ j = 22 ∨ j = 23 ∨ j = 24 := by omega
    rcases this with rfl | rfl | rfl | rfl | rfl | rfl | rfl | rfl | rfl | rfl | rfl | rfl | rfl | rfl | rfl | rfl | rfl | rfl | rfl | rfl | rfl | rfl | rfl | rfl | rfl <;> rfl
/-- a word has turned -/
theorem Bx.setX (h : Bx w m r y O p n V S) (i : Nat) (v : Value) (h1 : i ≠ 1) (h2 : i ≠ 2) (S2 : BS) (he : S2.came = S.came ∧ S2.goes = S.goes ∧ S2.out = S.out ∧ S2.L = S.L ∧ S2.a = S.a ∧ S2.C = S.C ∧ S2.D = S.D) (hc : ∀ j, j < 25 → (if j = i then v else cB r y n V S j) = cB r y n V S2 j) : Bx (w.setCell ⟨m, i, none⟩ v) m r y O p n V S2 := by
  obtain ⟨e1, e2, e3, e4, e5, e6, e7⟩ := he
  have fr : Fr (fun k => k = m) w (w.setCell ⟨m, i, none⟩ v) := (Fr.refl (fun k => k = m) w).setCell (x := ⟨m, i, none⟩) (.inl rfl) v
  have hq : ∀ j k, j < 6 → 1 ≤ j → KB m O V j k → ¬ k = m := fun j k hj h1 hk e => h.sep j 0 k hj (by omega) (by omega) hk e
  refine ⟨?_, ?_, ?_, ?_, ?_, h.sep⟩
  · rw [e4, e5]; exact (h.wb.setC i v h1 h2).congr hc
  · rw [e1]; exact h.oc.fr fr (fun k hk => hq 2 k (by omega) (by omega) hk)
  · rw [e2]; exact h.og.fr fr (fun k hk => hq 3 k (by omega) (by omega) hk)
  · rw [e3]; exact h.oo.fr fr (fun k hk => hq 4 k (by omega) (by omega) hk)
  · rw [e6, e7]; exact h.mm.fr fr (fun k hk => hq 5 k (by omega) (by omega) hk)
theorem Bx.b3 (h : Bx w m r y O p n V S) : w.cell? ⟨m, 3, none⟩ = some (.int .u32 (cwB S.r0 S.g0)) := h.wb.cC 3 (by omega) (by omega) (by omega)
theorem Bx.b4 (h : Bx w m r y O p n V S) : w.cell? ⟨m, 4, none⟩ = some (.int .u32 S.p0) := h.wb.cC 4 (by omega) (by omega) (by omega)
theorem Bx.b5 (h : Bx w m r y O p n V S) : w.cell? ⟨m, 5, none⟩ = some (.int .u32 (ibB S.s0)) := h.wb.cC 5 (by omega) (by omega) (by omega)
theorem Bx.b6 (h : Bx w m r y O p n V S) : w.cell? ⟨m, 6, none⟩ = some (.int .u32 (cwB S.r1 S.g1)) := h.wb.cC 6 (by omega) (by omega) (by omega)
theorem Bx.b7 (h : Bx w m r y O p n V S) : w.cell? ⟨m, 7, none⟩ = some (.int .u32 S.p1) := h.wb.cC 7 (by omega) (by omega) (by omega)
theorem Bx.b8 (h : Bx w m r y O p n V S) : w.cell? ⟨m, 8, none⟩ = some (.int .u32 (ibB S.s1)) := h.wb.cC 8 (by omega) (by omega) (by omega)
theorem Bx.b9 (h : Bx w m r y O p n V S) : w.cell? ⟨m, 9, none⟩ = some (V.c) := h.wb.cC 9 (by omega) (by omega) (by omega)
theorem Bx.b10 (h : Bx w m r y O p n V S) : w.cell? ⟨m, 10, none⟩ = some (V.g) := h.wb.cC 10 (by omega) (by omega) (by omega)
theorem Bx.b11 (h : Bx w m r y O p n V S) : w.cell? ⟨m, 11, none⟩ = some (.bool S.lost) := h.wb.cC 11 (by omega) (by omega) (by omega)
theorem Bx.b12 (h : Bx w m r y O p n V S) : w.cell? ⟨m, 12, none⟩ = some (.int .u32 S.uc) := h.wb.cC 12 (by omega) (by omega) (by omega)
theorem Bx.b13 (h : Bx w m r y O p n V S) : w.cell? ⟨m, 13, none⟩ = some (V.o) := h.wb.cC 13 (by omega) (by omega) (by omega)
theorem Bx.b14 (h : Bx w m r y O p n V S) : w.cell? ⟨m, 14, none⟩ = some (.int .u32 S.f) := h.wb.cC 14 (by omega) (by omega) (by omega)
theorem Bx.b15 (h : Bx w m r y O p n V S) : w.cell? ⟨m, 15, none⟩ = some (.int .u32 S.t) := h.wb.cC 15 (by omega) (by omega) (by omega)
theorem Bx.b16 (h : Bx w m r y O p n V S) : w.cell? ⟨m, 16, none⟩ = some (.int .u32 S.n) := h.wb.cC 16 (by omega) (by omega) (by omega)
theorem Bx.b17 (h : Bx w m r y O p n V S) : w.cell? ⟨m, 17, none⟩ = some (.int .u32 (sw S.bz S.dn S.er)) := h.wb.cC 17 (by omega) (by omega) (by omega)
theorem Bx.b18 (h : Bx w m r y O p n V S) : w.cell? ⟨m, 18, none⟩ = some (.int .u32 S.z) := h.wb.cC 18 (by omega) (by omega) (by omega)
theorem Bx.b19 (h : Bx w m r y O p n V S) : w.cell? ⟨m, 19, none⟩ = some (.int .u32 S.kt) := h.wb.cC 19 (by omega) (by omega) (by omega)
theorem Bx.b20 (h : Bx w m r y O p n V S) : w.cell? ⟨m, 20, none⟩ = some (.int .u32 S.kc) := h.wb.cC 20 (by omega) (by omega) (by omega)
theorem Bx.b21 (h : Bx w m r y O p n V S) : w.cell? ⟨m, 21, none⟩ = some (.int .u32 (sw S.kz S.kd S.ke)) := h.wb.cC 21 (by omega) (by omega) (by omega)
theorem Bx.b22 (h : Bx w m r y O p n V S) : w.cell? ⟨m, 22, none⟩ = some (.slice (some ⟨y, 0, none⟩) (64 * n) (64 * n)) := h.wb.cC 22 (by omega) (by omega) (by omega)
theorem Bx.b23 (h : Bx w m r y O p n V S) : w.cell? ⟨m, 23, none⟩ = some (.int .u32 S.up) := h.wb.cC 23 (by omega) (by omega) (by omega)
theorem Bx.b24 (h : Bx w m r y O p n V S) : w.cell? ⟨m, 24, none⟩ = some (.int .u32 S.ask) := h.wb.cC 24 (by omega) (by omega) (by omega)
theorem Bx.b0 (h : Bx w m r y O p n V S) : w.cell? ⟨m, 0, none⟩ = some (.pointer (some ⟨r, 0, none⟩)) := h.wb.cC 0 (by omega) (by omega) (by omega)
theorem Bx.setP0 (h : Bx w m r y O p n V S) (b : Int) : Bx (w.setCell ⟨m, 4, none⟩ (.int .u32 b)) m r y O p n V { S with p0 := b } :=
  h.setX 4 (.int .u32 b) (by omega) (by omega) { S with p0 := b } ⟨rfl, rfl, rfl, rfl, rfl, rfl, rfl⟩ fun j hj => by
    have : j = 0 ∨ j = 1 ∨ j = 2 ∨ j = 3 ∨ j = 4 ∨ j = 5 ∨ j = 6 ∨ j = 7 ∨ j = 8 ∨ j = 9 ∨ j = 10 ∨ j = 11 ∨ j = 12 ∨ j = 13 ∨ j = 14 ∨ j = 15 ∨ j = 16 ∨ j = 17 ∨ j = 18 ∨ j = 19 ∨ j = 20 ∨ j = 21 ∨ j = 22 ∨ j = 23 ∨ j = 24 := by omega
    rcases this with rfl | rfl | rfl | rfl | rfl | rfl | rfl | rfl | rfl | rfl | rfl | rfl | rfl | rfl | rfl | rfl | rfl | rfl | rfl | rfl | rfl | rfl | rfl | rfl | rfl <;> rfl
theorem Bx.setP1 (h : Bx w m r y O p n V S) (b : Int) : Bx (w.setCell ⟨m, 7, none⟩ (.int .u32 b)) m r y O p n V { S with p1 := b } :=
  h.setX 7 (.int .u32 b) (by omega) (by omega) { S with p1 := b } ⟨rfl, rfl, rfl, rfl, rfl, rfl, rfl⟩ fun j hj => by
    have : j = 0 ∨ j = 1 ∨ j = 2 ∨ j = 3 ∨ j = 4 ∨ j = 5 ∨ j = 6 ∨ j = 7 ∨ j = 8 ∨ j = 9 ∨ j = 10 ∨ j = 11 ∨ j = 12 ∨ j = 13 ∨ j = 14 ∨ j = 15 ∨ j = 16 ∨ j = 17 ∨ j = 18 ∨ j = 19 ∨ j = 20 ∨ j = 21 ∨ j = 22 ∨ j = 23 ∨ j = 24 := by omega
    rcases this with rfl | rfl | rfl | rfl | rfl | rfl | rfl | rfl | rfl | rfl | rfl | rfl | rfl | rfl | rfl | rfl | rfl | rfl | rfl | rfl | rfl | rfl | rfl | rfl | rfl <;> rfl
theorem Bx.setUc (h : Bx w m r y O p n V S) (b : Int) : Bx (w.setCell ⟨m, 12, none⟩ (.int .u32 b)) m r y O p n V { S with uc := b } :=
  h.setX 12 (.int .u32 b) (by omega) (by omega) { S with uc := b } ⟨rfl, rfl, rfl, rfl, rfl, rfl, rfl⟩ fun j hj => by
    have : j = 0 ∨ j = 1 ∨ j = 2 ∨ j = 3 ∨ j = 4 ∨ j = 5 ∨ j = 6 ∨ j = 7 ∨ j = 8 ∨ j = 9 ∨ j = 10 ∨ j = 11 ∨ j = 12 ∨ j = 13 ∨ j = 14 ∨ j = 15 ∨ j = 16 ∨ j = 17 ∨ j = 18 ∨ j = 19 ∨ j = 20 ∨ j = 21 ∨ j = 22 ∨ j = 23 ∨ j = 24 := by omega
    rcases this with rfl | rfl | rfl | rfl | rfl | rfl | rfl | rfl | rfl | rfl | rfl | rfl | rfl | rfl | rfl | rfl | rfl | rfl | rfl | rfl | rfl | rfl | rfl | rfl | rfl <;> rfl
theorem Bx.setLo (h : Bx w m r y O p n V S) (b : Bool) : Bx (w.setCell ⟨m, 11, none⟩ (.bool b)) m r y O p n V { S with lost := b } :=
  h.setX 11 (.bool b) (by omega) (by omega) { S with lost := b } ⟨rfl, rfl, rfl, rfl, rfl, rfl, rfl⟩ fun j hj => by
    have : j = 0 ∨ j = 1 ∨ j = 2 ∨ j = 3 ∨ j = 4 ∨ j = 5 ∨ j = 6 ∨ j = 7 ∨ j = 8 ∨ j = 9 ∨ j = 10 ∨ j = 11 ∨ j = 12 ∨ j = 13 ∨ j = 14 ∨ j = 15 ∨ j = 16 ∨ j = 17 ∨ j = 18 ∨ j = 19 ∨ j = 20 ∨ j = 21 ∨ j = 22 ∨ j = 23 ∨ j = 24 := by omega
    rcases this with rfl | rfl | rfl | rfl | rfl | rfl | rfl | rfl | rfl | rfl | rfl | rfl | rfl | rfl | rfl | rfl | rfl | rfl | rfl | rfl | rfl | rfl | rfl | rfl | rfl <;> rfl
theorem Bx.setF (h : Bx w m r y O p n V S) (b : Int) : Bx (w.setCell ⟨m, 14, none⟩ (.int .u32 b)) m r y O p n V { S with f := b } :=
  h.setX 14 (.int .u32 b) (by omega) (by omega) { S with f := b } ⟨rfl, rfl, rfl, rfl, rfl, rfl, rfl⟩ fun j hj => by
    have : j = 0 ∨ j = 1 ∨ j = 2 ∨ j = 3 ∨ j = 4 ∨ j = 5 ∨ j = 6 ∨ j = 7 ∨ j = 8 ∨ j = 9 ∨ j = 10 ∨ j = 11 ∨ j = 12 ∨ j = 13 ∨ j = 14 ∨ j = 15 ∨ j = 16 ∨ j = 17 ∨ j = 18 ∨ j = 19 ∨ j = 20 ∨ j = 21 ∨ j = 22 ∨ j = 23 ∨ j = 24 := by omega
    rcases this with rfl | rfl | rfl | rfl | rfl | rfl | rfl | rfl | rfl | rfl | rfl | rfl | rfl | rfl | rfl | rfl | rfl | rfl | rfl | rfl | rfl | rfl | rfl | rfl | rfl <;> rfl
theorem Bx.setT (h : Bx w m r y O p n V S) (b : Int) : Bx (w.setCell ⟨m, 15, none⟩ (.int .u32 b)) m r y O p n V { S with t := b } :=
  h.setX 15 (.int .u32 b) (by omega) (by omega) { S with t := b } ⟨rfl, rfl, rfl, rfl, rfl, rfl, rfl⟩ fun j hj => by
    have : j = 0 ∨ j = 1 ∨ j = 2 ∨ j = 3 ∨ j = 4 ∨ j = 5 ∨ j = 6 ∨ j = 7 ∨ j = 8 ∨ j = 9 ∨ j = 10 ∨ j = 11 ∨ j = 12 ∨ j = 13 ∨ j = 14 ∨ j = 15 ∨ j = 16 ∨ j = 17 ∨ j = 18 ∨ j = 19 ∨ j = 20 ∨ j = 21 ∨ j = 22 ∨ j = 23 ∨ j = 24 := by omega
    rcases this with rfl | rfl | rfl | rfl | rfl | rfl | rfl | rfl | rfl | rfl | rfl | rfl | rfl | rfl | rfl | rfl | rfl | rfl | rfl | rfl | rfl | rfl | rfl | rfl | rfl <;> rfl
theorem Bx.setN (h : Bx w m r y O p n V S) (b : Int) : Bx (w.setCell ⟨m, 16, none⟩ (.int .u32 b)) m r y O p n V { S with n := b } :=
  h.setX 16 (.int .u32 b) (by omega) (by omega) { S with n := b } ⟨rfl, rfl, rfl, rfl, rfl, rfl, rfl⟩ fun j hj => by
    have : j = 0 ∨ j = 1 ∨ j = 2 ∨ j = 3 ∨ j = 4 ∨ j = 5 ∨ j = 6 ∨ j = 7 ∨ j = 8 ∨ j = 9 ∨ j = 10 ∨ j = 11 ∨ j = 12 ∨ j = 13 ∨ j = 14 ∨ j = 15 ∨ j = 16 ∨ j = 17 ∨ j = 18 ∨ j = 19 ∨ j = 20 ∨ j = 21 ∨ j = 22 ∨ j = 23 ∨ j = 24 := by omega
    rcases this with rfl | rfl | rfl | rfl | rfl | rfl | rfl | rfl | rfl | rfl | rfl | rfl | rfl | rfl | rfl | rfl | rfl | rfl | rfl | rfl | rfl | rfl | rfl | rfl | rfl <;> rfl
theorem Bx.setZ (h : Bx w m r y O p n V S) (b : Int) : Bx (w.setCell ⟨m, 18, none⟩ (.int .u32 b)) m r y O p n V { S with z := b } :=
  h.setX 18 (.int .u32 b) (by omega) (by omega) { S with z := b } ⟨rfl, rfl, rfl, rfl, rfl, rfl, rfl⟩ fun j hj => by
    have : j = 0 ∨ j = 1 ∨ j = 2 ∨ j = 3 ∨ j = 4 ∨ j = 5 ∨ j = 6 ∨ j = 7 ∨ j = 8 ∨ j = 9 ∨ j = 10 ∨ j = 11 ∨ j = 12 ∨ j = 13 ∨ j = 14 ∨ j = 15 ∨ j = 16 ∨ j = 17 ∨ j = 18 ∨ j = 19 ∨ j = 20 ∨ j = 21 ∨ j = 22 ∨ j = 23 ∨ j = 24 := by omega
    rcases this with rfl | rfl | rfl | rfl | rfl | rfl | rfl | rfl | rfl | rfl | rfl | rfl | rfl | rfl | rfl | rfl | rfl | rfl | rfl | rfl | rfl | rfl | rfl | rfl | rfl <;> rfl
theorem Bx.setKt (h : Bx w m r y O p n V S) (b : Int) : Bx (w.setCell ⟨m, 19, none⟩ (.int .u32 b)) m r y O p n V { S with kt := b } :=
  h.setX 19 (.int .u32 b) (by omega) (by omega) { S with kt := b } ⟨rfl, rfl, rfl, rfl, rfl, rfl, rfl⟩ fun j hj => by
    have : j = 0 ∨ j = 1 ∨ j = 2 ∨ j = 3 ∨ j = 4 ∨ j = 5 ∨ j = 6 ∨ j = 7 ∨ j = 8 ∨ j = 9 ∨ j = 10 ∨ j = 11 ∨ j = 12 ∨ j = 13 ∨ j = 14 ∨ j = 15 ∨ j = 16 ∨ j = 17 ∨ j = 18 ∨ j = 19 ∨ j = 20 ∨ j = 21 ∨ j = 22 ∨ j = 23 ∨ j = 24 := by omega
    rcases this with rfl | rfl | rfl | rfl | rfl | rfl | rfl | rfl | rfl | rfl | rfl | rfl | rfl | rfl | rfl | rfl | rfl | rfl | rfl | rfl | rfl | rfl | rfl | rfl | rfl <;> rfl
theorem Bx.setKc (h : Bx w m r y O p n V S) (b : Int) : Bx (w.setCell ⟨m, 20, none⟩ (.int .u32 b)) m r y O p n V { S with kc := b } :=
  h.setX 20 (.int .u32 b) (by omega) (by omega) { S with kc := b } ⟨rfl, rfl, rfl, rfl, rfl, rfl, rfl⟩ fun j hj => by
    have : j = 0 ∨ j = 1 ∨ j = 2 ∨ j = 3 ∨ j = 4 ∨ j = 5 ∨ j = 6 ∨ j = 7 ∨ j = 8 ∨ j = 9 ∨ j = 10 ∨ j = 11 ∨ j = 12 ∨ j = 13 ∨ j = 14 ∨ j = 15 ∨ j = 16 ∨ j = 17 ∨ j = 18 ∨ j = 19 ∨ j = 20 ∨ j = 21 ∨ j = 22 ∨ j = 23 ∨ j = 24 := by omega
    rcases this with rfl | rfl | rfl | rfl | rfl | rfl | rfl | rfl | rfl | rfl | rfl | rfl | rfl | rfl | rfl | rfl | rfl | rfl | rfl | rfl | rfl | rfl | rfl | rfl | rfl <;> rfl
theorem Bx.setUp (h : Bx w m r y O p n V S) (b : Int) : Bx (w.setCell ⟨m, 23, none⟩ (.int .u32 b)) m r y O p n V { S with up := b } :=
  h.setX 23 (.int .u32 b) (by omega) (by omega) { S with up := b } ⟨rfl, rfl, rfl, rfl, rfl, rfl, rfl⟩ fun j hj => by
    have : j = 0 ∨ j = 1 ∨ j = 2 ∨ j = 3 ∨ j = 4 ∨ j = 5 ∨ j = 6 ∨ j = 7 ∨ j = 8 ∨ j = 9 ∨ j = 10 ∨ j = 11 ∨ j = 12 ∨ j = 13 ∨ j = 14 ∨ j = 15 ∨ j = 16 ∨ j = 17 ∨ j = 18 ∨ j = 19 ∨ j = 20 ∨ j = 21 ∨ j = 22 ∨ j = 23 ∨ j = 24 := by omega
    rcases this with rfl | rfl | rfl | rfl | rfl | rfl | rfl | rfl | rfl | rfl | rfl | rfl | rfl | rfl | rfl | rfl | rfl | rfl | rfl | rfl | rfl | rfl | rfl | rfl | rfl <;> rfl
theorem Bx.setAsk (h : Bx w m r y O p n V S) (b : Int) : Bx (w.setCell ⟨m, 24, none⟩ (.int .u32 b)) m r y O p n V { S with ask := b } :=
  h.setX 24 (.int .u32 b) (by omega) (by omega) { S with ask := b } ⟨rfl, rfl, rfl, rfl, rfl, rfl, rfl⟩ fun j hj => by
    have : j = 0 ∨ j = 1 ∨ j = 2 ∨ j = 3 ∨ j = 4 ∨ j = 5 ∨ j = 6 ∨ j = 7 ∨ j = 8 ∨ j = 9 ∨ j = 10 ∨ j = 11 ∨ j = 12 ∨ j = 13 ∨ j = 14 ∨ j = 15 ∨ j = 16 ∨ j = 17 ∨ j = 18 ∨ j = 19 ∨ j = 20 ∨ j = 21 ∨ j = 22 ∨ j = 23 ∨ j = 24 := by omega
    rcases this with rfl | rfl | rfl | rfl | rfl | rfl | rfl | rfl | rfl | rfl | rfl | rfl | rfl | rfl | rfl | rfl | rfl | rfl | rfl | rfl | rfl | rfl | rfl | rfl | rfl <;> rfl
theorem Bx.setC0 (h : Bx w m r y O p n V S) (b : Int) (x0 x1 : Bool) (hb : b = cwB x0 x1) : Bx (w.setCell ⟨m, 3, none⟩ (.int .u32 b)) m r y O p n V { S with r0 := x0, g0 := x1 } := by
  subst hb
  exact h.setX 3 (.int .u32 (cwB x0 x1)) (by omega) (by omega) { S with r0 := x0, g0 := x1 } ⟨rfl, rfl, rfl, rfl, rfl, rfl, rfl⟩ fun j hj => by
    have : j = 0 ∨ j = 1 ∨ j = 2 ∨ j = 3 ∨ j = 4 ∨ j = 5 ∨ j = 6 ∨ j = 7 ∨ j = 8 ∨ j = 9 ∨ j = 10 ∨ j = 11 ∨ j = 12 ∨ j = 13 ∨ j = 14 ∨ j = 15 ∨ j = 16 ∨ j = 17 ∨ j = 18 ∨ j = 19 ∨ j = 20 ∨ j = 21 ∨ j = 22 ∨ j = 23 ∨ j = 24 := by omega
    rcases this with rfl | rfl | rfl | rfl | rfl | rfl | rfl | rfl | rfl | rfl | rfl | rfl | rfl | rfl | rfl | rfl | rfl | rfl | rfl | rfl | rfl | rfl | rfl | rfl | rfl <;> rfl
theorem Bx.setS0 (h : Bx w m r y O p n V S) (b : Int) (x0 : Bool) (hb : b = ibB x0) : Bx (w.setCell ⟨m, 5, none⟩ (.int .u32 b)) m r y O p n V { S with s0 := x0 } := by
  subst hb
  exact h.setX 5 (.int .u32 (ibB x0)) (by omega) (by omega) { S with s0 := x0 } ⟨rfl, rfl, rfl, rfl, rfl, rfl, rfl⟩ fun j hj => by
    have : j = 0 ∨ j = 1 ∨ j = 2 ∨ j = 3 ∨ j = 4 ∨ j = 5 ∨ j = 6 ∨ j = 7 ∨ j = 8 ∨ j = 9 ∨ j = 10 ∨ j = 11 ∨ j = 12 ∨ j = 13 ∨ j = 14 ∨ j = 15 ∨ j = 16 ∨ j = 17 ∨ j = 18 ∨ j = 19 ∨ j = 20 ∨ j = 21 ∨ j = 22 ∨ j = 23 ∨ j = 24 := by omega
    rcases this with rfl | rfl | rfl | rfl | rfl | rfl | rfl | rfl | rfl | rfl | rfl | rfl | rfl | rfl | rfl | rfl | rfl | rfl | rfl | rfl | rfl | rfl | rfl | rfl | rfl <;> rfl
theorem Bx.setC1 (h : Bx w m r y O p n V S) (b : Int) (x0 x1 : Bool) (hb : b = cwB x0 x1) : Bx (w.setCell ⟨m, 6, none⟩ (.int .u32 b)) m r y O p n V { S with r1 := x0, g1 := x1 } := by
  subst hb
  exact h.setX 6 (.int .u32 (cwB x0 x1)) (by omega) (by omega) { S with r1 := x0, g1 := x1 } ⟨rfl, rfl, rfl, rfl, rfl, rfl, rfl⟩ fun j hj => by
    have : j = 0 ∨ j = 1 ∨ j = 2 ∨ j = 3 ∨ j = 4 ∨ j = 5 ∨ j = 6 ∨ j = 7 ∨ j = 8 ∨ j = 9 ∨ j = 10 ∨ j = 11 ∨ j = 12 ∨ j = 13 ∨ j = 14 ∨ j = 15 ∨ j = 16 ∨ j = 17 ∨ j = 18 ∨ j = 19 ∨ j = 20 ∨ j = 21 ∨ j = 22 ∨ j = 23 ∨ j = 24 := by omega
    rcases this with rfl | rfl | rfl | rfl | rfl | rfl | rfl | rfl | rfl | rfl | rfl | rfl | rfl | rfl | rfl | rfl | rfl | rfl | rfl | rfl | rfl | rfl | rfl | rfl | rfl <;> rfl
theorem Bx.setS1 (h : Bx w m r y O p n V S) (b : Int) (x0 : Bool) (hb : b = ibB x0) : Bx (w.setCell ⟨m, 8, none⟩ (.int .u32 b)) m r y O p n V { S with s1 := x0 } := by
  subst hb
  exact h.setX 8 (.int .u32 (ibB x0)) (by omega) (by omega) { S with s1 := x0 } ⟨rfl, rfl, rfl, rfl, rfl, rfl, rfl⟩ fun j hj => by
    have : j = 0 ∨ j = 1 ∨ j = 2 ∨ j = 3 ∨ j = 4 ∨ j = 5 ∨ j = 6 ∨ j = 7 ∨ j = 8 ∨ j = 9 ∨ j = 10 ∨ j = 11 ∨ j = 12 ∨ j = 13 ∨ j = 14 ∨ j = 15 ∨ j = 16 ∨ j = 17 ∨ j = 18 ∨ j = 19 ∨ j = 20 ∨ j = 21 ∨ j = 22 ∨ j = 23 ∨ j = 24 := by omega
    rcases this with rfl | rfl | rfl | rfl | rfl | rfl | rfl | rfl | rfl | rfl | rfl | rfl | rfl | rfl | rfl | rfl | rfl | rfl | rfl | rfl | rfl | rfl | rfl | rfl | rfl <;> rfl
theorem Bx.setMs (h : Bx w m r y O p n V S) (b : Int) (x0 x1 x2 : Bool) (hb : b = sw x0 x1 x2) : Bx (w.setCell ⟨m, 17, none⟩ (.int .u32 b)) m r y O p n V { S with bz := x0, dn := x1, er := x2 } := by
  subst hb
  exact h.setX 17 (.int .u32 (sw x0 x1 x2)) (by omega) (by omega) { S with bz := x0, dn := x1, er := x2 } ⟨rfl, rfl, rfl, rfl, rfl, rfl, rfl⟩ fun j hj => by
    have : j = 0 ∨ j = 1 ∨ j = 2 ∨ j = 3 ∨ j = 4 ∨ j = 5 ∨ j = 6 ∨ j = 7 ∨ j = 8 ∨ j = 9 ∨ j = 10 ∨ j = 11 ∨ j = 12 ∨ j = 13 ∨ j = 14 ∨ j = 15 ∨ j = 16 ∨ j = 17 ∨ j = 18 ∨ j = 19 ∨ j = 20 ∨ j = 21 ∨ j = 22 ∨ j = 23 ∨ j = 24 := by omega
    rcases this with rfl | rfl | rfl | rfl | rfl | rfl | rfl | rfl | rfl | rfl | rfl | rfl | rfl | rfl | rfl | rfl | rfl | rfl | rfl | rfl | rfl | rfl | rfl | rfl | rfl <;> rfl
theorem Bx.setKs (h : Bx w m r y O p n V S) (b : Int) (x0 x1 x2 : Bool) (hb : b = sw x0 x1 x2) : Bx (w.setCell ⟨m, 21, none⟩ (.int .u32 b)) m r y O p n V { S with kz := x0, kd := x1, ke := x2 } := by
  subst hb
  exact h.setX 21 (.int .u32 (sw x0 x1 x2)) (by omega) (by omega) { S with kz := x0, kd := x1, ke := x2 } ⟨rfl, rfl, rfl, rfl, rfl, rfl, rfl⟩ fun j hj => by
    have : j = 0 ∨ j = 1 ∨ j = 2 ∨ j = 3 ∨ j = 4 ∨ j = 5 ∨ j = 6 ∨ j = 7 ∨ j = 8 ∨ j = 9 ∨ j = 10 ∨ j = 11 ∨ j = 12 ∨ j = 13 ∨ j = 14 ∨ j = 15 ∨ j = 16 ∨ j = 17 ∨ j = 18 ∨ j = 19 ∨ j = 20 ∨ j = 21 ∨ j = 22 ∨ j = 23 ∨ j = 24 := by omega
    rcases this with rfl | rfl | rfl | rfl | rfl | rfl | rfl | rfl | rfl | rfl | rfl | rfl | rfl | rfl | rfl | rfl | rfl | rfl | rfl | rfl | rfl | rfl | rfl | rfl | rfl <;> rfl
end
end Go.Proofs.YtkfedihaldpgmaaGreat
