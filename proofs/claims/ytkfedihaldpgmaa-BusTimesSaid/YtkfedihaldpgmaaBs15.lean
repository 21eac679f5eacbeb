/-
  Chapter 15: the document's bus, all its devices in one state.
-/
import Derived.Test.YtkfedihaldpgmaaPre15
namespace Go.Proofs.Ytkfedihaldpgmaa
open Go.RowKit
set_option linter.unusedVariables false
set_option linter.unusedSimpArgs false
/-- a timer's control: it runs, it comes again -/
def cwB (r g : Bool) : Int := match r, g with
  | false, false => 0
  | true, false => 1
  | false, true => 2
  | true, true => 3
def ibB (b : Bool) : Int := match b with
  | true => 1
  | false => 0
/-- what a bus is: the timers (runs, again, period, status), the uart (came, to go, out; lost, control), the mover, the disk, the lines; what is due, the next number; memory's bytes, the disk's -/
structure BS where
  r0 : Bool
  g0 : Bool
  p0 : Int
  s0 : Bool
  r1 : Bool
  g1 : Bool
  p1 : Int
  s1 : Bool
  came : List Int
  goes : List Int
  out : List Int
  lost : Bool
  uc : Int
  f : Int
  t : Int
  n : Int
  bz : Bool
  dn : Bool
  er : Bool
  z : Int
  kt : Int
  kc : Int
  kz : Bool
  kd : Bool
  ke : Bool
  up : Int
  ask : Int
  L : List Ev
  a : Int
  C : Nat → Int
  D : Nat → Int
/-- the slices that a bus owns: the wheel's, what came, what is to go, what went -/
structure SV where
  u : Value
  c : Value
  g : Value
  o : Value
/-- a bus's cells beside its wheel's two -/
def cB (r y n : Nat) (V : SV) (S : BS) : Nat → Value
  | 1 => .bool false
  | 2 => .bool false
  | 0 => .pointer (some ⟨r, 0, none⟩)
  | 3 => .int .u32 (cwB S.r0 S.g0)
  | 4 => .int .u32 S.p0
  | 5 => .int .u32 (ibB S.s0)
  | 6 => .int .u32 (cwB S.r1 S.g1)
  | 7 => .int .u32 S.p1
  | 8 => .int .u32 (ibB S.s1)
  | 9 => V.c
  | 10 => V.g
  | 11 => .bool S.lost
  | 12 => .int .u32 S.uc
  | 13 => V.o
  | 14 => .int .u32 S.f
  | 15 => .int .u32 S.t
  | 16 => .int .u32 S.n
  | 17 => .int .u32 (sw S.bz S.dn S.er)
  | 18 => .int .u32 S.z
  | 19 => .int .u32 S.kt
  | 20 => .int .u32 S.kc
  | 21 => .int .u32 (sw S.kz S.kd S.ke)
  | 22 => .slice (some ⟨y, 0, none⟩) (64 * n) (64 * n)
  | 23 => .int .u32 S.up
  | _ => .int .u32 S.ask
/-- a slice of bytes of one's own -/
def Ob (w : World) (v : Value) (L : List Int) : Prop := w.ownsRow 0 5 1 v L.length (L.map (Value.int .u8)) ∧ ∀ x ∈ L, 0 ≤ x ∧ x ≤ 255
theorem Ob.fr {Q : Nat → Prop} {w w' : World} {v : Value} {L : List Int} (h : Ob w v L) (f : Fr Q w w') (hs : ∀ k, v.ownBlock = some k → ¬ Q k) : Ob w' v L := by
  refine ⟨⟨h.1.1, ?_⟩, h.2⟩
  rcases h.1.2 with h2 | ⟨g, cap, cur, rfl, hb, hh, r⟩
  · exact .inl h2
  · have hl : g < w.heap.size := (Array.getElem?_eq_some_iff.1 hh).1
    exact .inr ⟨g, cap, cur, rfl, hb, (f.block g hl (hs g rfl)).trans hh, r⟩
theorem Ob.lt {w : World} {v : Value} {L : List Int} (h : Ob w v L) : ∀ k, v.ownBlock = some k → k < w.heap.size := fun k hk => (World.ownsRow.lt h.1 k hk).2
/-- the bus's own blocks, by parts -/
def KB (m : Nat) (O : Nat → Prop) (V : SV) : Nat → Nat → Prop
  | 0, k => k = m
  | 1, k => V.u.ownBlock = some k
  | 2, k => V.c.ownBlock = some k
  | 3, k => V.g.ownBlock = some k
  | 4, k => V.o.ownBlock = some k
  | _, k => O k
def Sep (K : Nat → Nat → Prop) : Prop := ∀ i j k, i < 6 → j < 6 → i ≠ j → K i k → ¬ K j k
/-- one part has turned, into itself or into what is new -/
theorem Sep.upd {K K2 : Nat → Nat → Prop} {B : Nat} (h : Sep K) (hlt : ∀ j k, j < 6 → K j k → k < B) (i : Nat) (h2 : ∀ j k, j < 6 → K2 j k → K j k ∨ (j = i ∧ B ≤ k)) : Sep K2 := by
  intro a b k ha hb hab hk hk2
  rcases h2 a k ha hk with e1 | ⟨rfl, e1⟩
  · rcases h2 b k hb hk2 with e2 | ⟨rfl, e2⟩
    · exact h a b k ha hb hab e1 e2
    · have := hlt a k ha e1; omega
  · rcases h2 b k hb hk2 with e2 | ⟨rfl, e2⟩
    · have := hlt b k hb e2; omega
    · exact hab rfl
/-- all the bus's own blocks -/
def OwnB (m : Nat) (O : Nat → Prop) (V : SV) (k : Nat) : Prop := ∃ i, i < 6 ∧ KB m O V i k
/-- of what was there the bus's own blocks alone have turned -/
structure CB (m : Nat) (O : Nat → Prop) (V V2 : SV) (w w' : World) : Prop where
  fr : Fr (OwnB m O V) w w'
  nw : ∀ k, OwnB m O V2 k → OwnB m O V k ∨ w.heap.size ≤ k
section
variable {w w' w1 w2 : World} {m r y : Nat} {O : Nat → Prop} {p n : Nat} {V V2 V3 : SV} {S S2 : BS}
theorem CB.refl (m : Nat) (O : Nat → Prop) (V : SV) (w : World) : CB m O V V w w := ⟨Fr.refl _ _, fun _ h => .inl h⟩
theorem CB.trans (h : CB m O V V2 w w1) (k : CB m O V2 V3 w1 w2) : CB m O V V3 w w2 := by
  refine ⟨⟨k.fr.os.trans h.fr.os, k.fr.tape.trans h.fr.tape, k.fr.output.trans h.fr.output, Nat.le_trans h.fr.size k.fr.size, fun i hi hn => ?_⟩, fun i hi => ?_⟩
  · refine (k.fr.block i (Nat.lt_of_lt_of_le hi h.fr.size) (fun e => ?_)).trans (h.fr.block i hi hn)
    rcases h.nw i e with e | e
    · exact hn e
    · omega
  · rcases k.nw i hi with e | e
    · exact h.nw i e
    · exact .inr (Nat.le_trans h.fr.size e)
theorem CB.of (h : Fr (OwnB m O V) w w') : CB m O V V w w' := ⟨h, fun _ h => .inl h⟩
theorem CB.of_no (b : Fr (fun _ => False) w w') : CB m O V V w w' := CB.of (b.mono fun _ e => e.elim)
theorem CB.of_below (b : Below w.heap.size w w') : CB m O V V w w' := CB.of (Fr.of_below b)
theorem CB.of_mem (h : Fr O w w') : CB m O V V w w' := CB.of (h.mono fun k e => ⟨5, by omega, e⟩)
theorem CB.drewN (m : Nat) (O : Nat → Prop) (V : SV) (w : World) (k : Nat) : CB m O V V w (w.drewN k) := CB.of ((Fr.refl _ w).drewN k)
theorem CB.set (m : Nat) (O : Nat → Prop) (V : SV) (w : World) (i : Nat) (v : Value) : CB m O V V w (w.setCell ⟨m, i, none⟩ v) := CB.of ((Fr.refl (OwnB m O V) w).setCell (x := ⟨m, i, none⟩) (.inl (show OwnB m O V m from ⟨0, by omega, rfl⟩)) v)
theorem CB.of_ch {u2 : Value} (h : Ch m V.u u2 w w') : CB m O V { V with u := u2 } w w' := by
  refine ⟨h.fr.mono fun k e => ?_, fun k hk => ?_⟩
  · rcases e with e | e
    · exact ⟨0, by omega, e⟩
    · exact ⟨1, by omega, e⟩
  · obtain ⟨i, hi, hk⟩ := hk
    match i, hi with
    | 0, _ => exact .inl ⟨0, by omega, hk⟩
    | 1, _ => rcases h.nw k hk with e | e
              · exact .inl ⟨1, by omega, e⟩
              · exact .inr e
    | 2, _ => exact .inl ⟨2, by omega, hk⟩
    | 3, _ => exact .inl ⟨3, by omega, hk⟩
    | 4, _ => exact .inl ⟨4, by omega, hk⟩
    | 5, _ => exact .inl ⟨5, by omega, hk⟩
end
end Go.Proofs.Ytkfedihaldpgmaa
