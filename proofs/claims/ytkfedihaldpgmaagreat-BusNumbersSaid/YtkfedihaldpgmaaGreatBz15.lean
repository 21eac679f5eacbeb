/-
  Chapter 15: the document's bus: New.
-/
import Derived.Test.YtkfedihaldpgmaaGreatBi15
import Derived.Test.YtkfedihaldpgmaaGreatPn15
/-
  Chapter 15: the document's bus: Type, New, in the one state.
-/
namespace Go.Proofs.YtkfedihaldpgmaaGreat
open Go.RowKit
set_option linter.unusedVariables false
set_option linter.unusedSimpArgs false
section
variable {w w' : World} {m r y : Nat} {O : Nat → Prop} {p n : Nat} {V : SV} {S : BS} {N : Int}
set_option maxRecDepth 100000 in
set_option maxHeartbeats 1000000 in
theorem rtype_any (b : Int) (h : Bx w m r y O p n V S) (hb : 0 ≤ b ∧ b ≤ 255) :
    Calls Tryz.prog 48 #[.pointer (some ⟨m, 0, none⟩), .int .u8 b] w (RetN (.tuple #[]) w m r y O p n V (gat (typeB b S))) := by
  by_cases hg : S.came.length < 16
  · have HT : Hid (typeB b S = { S with came := S.came ++ [b] }) := by show _ = _; unfold typeB; rw [if_pos hg]
    obtain ⟨A, c, hv, hc⟩ := h.oc.form
    have b9 := h.b9
    rw [hv] at b9
    have bl0 : Below w.heap.size w (w.alloc (.cells #[] 5)) := (Below.refl _ _).alloc (Nat.le_refl _) _
    have hown : (w.alloc (.cells #[] 5)).ownsRow w.heap.size 5 1 (.slice (some ⟨w.heap.size, 0, none⟩) 0 0) 0 [] := World.ownsRow_lit w #[] 0 (Nat.le_refl _) (by unfold maxLen; omega) rfl
    obtain ⟨va, wa, ra, oa, ba, sa⟩ := app_bys (L := S.came) 24 hown (h.below bl0).oc.by bl0.size (by omega)
    obtain ⟨vb, wb, rb, ob, bb, sb⟩ := app_byte (X := wa.heap.size) 24 b oa rfl (Nat.le_trans bl0.size sa) (by omega)
    obtain ⟨gb, cb, hvb, hz1, hz2⟩ := ob.form (by omega)
    clear hz1 hz2
    have hbw := bb w (ba w bl0)
    have hB := h.below hbw
    have hob : Ob wb vb (S.came ++ [b]) := by
      refine ⟨?_, byt_snoc h.oc.2 hb⟩
      have : wb.ownsRow 0 5 1 vb (S.came.length + 1) (S.came.map (Value.int .u8) ++ [.int .u8 b]) := own_le ob (Nat.zero_le _)
      rw [List.length_append, List.map_append]
      exact this
    have hnew : ∀ k, vb.ownBlock = some k → w.heap.size ≤ k := fun k hk => (World.ownsRow.lt ob k hk).1
    obtain ⟨hG, hCB⟩ := h.newC hbw hob hnew
    have HQ := Lib.hid (rgather_any hG)
    have f9 := hB.wb.st.frozen 9
    have d9 : wb.cell? ⟨m, 9, none⟩ = some (.slice A S.came.length c) := hv ▸ hB.b9
    have c9 : (w.alloc (.cells #[] 5)).cell? ⟨m, 9, none⟩ = some (.slice A S.came.length c) := hv ▸ (h.below bl0).b9
    rw [hv] at ra
    have RA := Lib.hid ra
    have RB := Lib.hid rb
    have HCB := Lib.hid hCB
    have hml := h.wb.st.lt
    have hbs := hbw.size
    clear ra rb oa ob ba bb sa sb hB hob hnew hG hCB hown hv hbw bl0
    generalize S.came.length = N at b9 c9 d9 hg hc RA RB hvb
    subst hvb
    go_enter Tryz.func48, Tryz.ntmps48
    go_wp2_with (at_builtin; first | refine wpList_append_go rfl (.tmp 12) (.tmp 17) 24 24 rfl _ _ rfl rfl RA.out ?_ | refine wpList_append_go rfl (.tmp 18) (.tmp 20) 24 24 rfl _ _ rfl rfl RB.out ?_)
    with_reducible refine HQ.out.mono ?_
    rintro e w3 ⟨rfl, V3, h3, hc3⟩
    go_wp2
    go_end0
    exact ⟨rfl, V3, by rw [HT.out]; exact h3, HCB.out.trans hc3⟩
  · have HT : Hid (typeB b S = { S with lost := true }) := by show _ = _; unfold typeB; rw [if_neg hg]
    obtain ⟨A, c, hv, hc⟩ := h.oc.form
    have b9 := h.b9
    rw [hv] at b9
    have f11 := h.wb.st.frozen 11
    have b11 := h.b11
    have h2 := h.setLo true
    have HQ := Lib.hid (rgather_any h2)
    clear h2 hv hc
    have hgI : ¬ (S.came.length : Int) < 16 := by omega
    generalize S.came.length = N at b9 hg hgI
    go_enter Tryz.func48, Tryz.ntmps48
    go_wp2_with fail
    with_reducible refine HQ.out.mono ?_
    rintro e w3 ⟨rfl, V3, h3, hc3⟩
    go_wp2
    go_end0
    exact ⟨rfl, V3, by rw [HT.out]; exact h3, (CB.set m O V w 11 _).trans hc3⟩
end
end Go.Proofs.YtkfedihaldpgmaaGreat

namespace Go.Proofs.YtkfedihaldpgmaaGreat
open Go.RowKit
set_option linter.unusedVariables false
set_option linter.unusedSimpArgs false
/-- the cells of a new bus, x: its disk's slice -/
def bc (r : Nat) (x : Value) : Nat → Value
  | 0 => .pointer (some ⟨r, 0, none⟩)
  | 1 => .slice none 0 0
  | 2 => .int .i64 0
  | 3 => .int .u32 0
  | 4 => .int .u32 0
  | 5 => .int .u32 0
  | 6 => .int .u32 0
  | 7 => .int .u32 0
  | 8 => .int .u32 0
  | 9 => .slice none 0 0
  | 10 => .slice none 0 0
  | 11 => .bool false
  | 12 => .int .u32 0
  | 13 => .slice none 0 0
  | 14 => .int .u32 0
  | 15 => .int .u32 0
  | 16 => .int .u32 0
  | 17 => .int .u32 0
  | 18 => .int .u32 0
  | 19 => .int .u32 0
  | 20 => .int .u32 0
  | 21 => .int .u32 0
  | 22 => x
  | 23 => .int .u32 0
  | _ => .int .u32 0
def V00 : SV := ⟨.slice none 0 0, .slice none 0 0, .slice none 0 0, .slice none 0 0⟩
theorem bx_new (w1 : World) (m r y p n : Nat) (M : Nat → Prop) (C D : Nat → Int) (hrow : w1.rowIs m 59 25 (bc r (.slice (some ⟨y, 0, none⟩) (64 * n) (64 * n)))) (hm : Ra 62 w1 r M p C) (hr : w1.rowIs y 5 (64 * n) (fun i => .int .u8 (D i))) (hD : ∀ i, 0 ≤ D i ∧ D i ≤ 255) (hy : ¬ M y) (hmm : ¬ M m) (hym : m ≠ y) :
    Bx w1 m r y (fun k => M k ∨ k = y) p n V00 (S0B C D) := by
  have hno : ∀ k, ¬ Value.ownBlock (.slice none 0 0) = some k := fun k e => by cases e
  refine ⟨⟨hrow.congr fun i hi => ?_, World.ownsRow_nil _ _ _ _, by simp [Value.ownBlock, V00]⟩, ⟨World.ownsRow_nil _ _ _ _, fun x hx => by cases hx⟩, ⟨World.ownsRow_nil _ _ _ _, fun x hx => by cases hx⟩, ⟨World.ownsRow_nil _ _ _ _, fun x hx => by cases hx⟩, ⟨M, rfl, hy, hm, hr, hD⟩, ?_⟩
  · have hi : i < 25 := hi
    have : i = 0 ∨ i = 1 ∨ i = 2 ∨ i = 3 ∨ i = 4 ∨ i = 5 ∨ i = 6 ∨ i = 7 ∨ i = 8 ∨ i = 9 ∨ i = 10 ∨ i = 11 ∨ i = 12 ∨ i = 13 ∨ i = 14 ∨ i = 15 ∨ i = 16 ∨ i = 17 ∨ i = 18 ∨ i = 19 ∨ i = 20 ∨ i = 21 ∨ i = 22 ∨ i = 23 ∨ i = 24 := by omega
    rcases this with rfl | rfl | rfl | rfl | rfl | rfl | rfl | rfl | rfl | rfl | rfl | rfl | rfl | rfl | rfl | rfl | rfl | rfl | rfl | rfl | rfl | rfl | rfl | rfl | rfl <;> rfl
  · have key : ∀ i k, i < 6 → KB m (fun k => M k ∨ k = y) V00 i k → (i = 0 ∧ k = m) ∨ (i = 5 ∧ (M k ∨ k = y)) := by
      intro i k hi hk
      match i, hi with
      | 0, _ => exact .inl ⟨rfl, hk⟩
      | 1, _ => exact absurd hk (hno k)
      | 2, _ => exact absurd hk (hno k)
      | 3, _ => exact absurd hk (hno k)
      | 4, _ => exact absurd hk (hno k)
      | 5, _ => exact .inr ⟨rfl, hk⟩
    intro i j k hi hj hij a b
    rcases key i k hi a with ⟨e1, e2⟩ | ⟨e1, e2⟩ <;> rcases key j k hj b with ⟨e3, e4⟩ | ⟨e3, e4⟩
    · omega
    · subst e2
      rcases e4 with e | e
      · exact hmm e
      · exact hym e
    · subst e4
      rcases e2 with e | e
      · exact hmm e
      · exact hym e
    · omega
/-- it returns a bus; all of it is new -/
def NewBx (w : World) (p n : Nat) (C D : Nat → Int) (e : Ending) (w' : World) : Prop :=
  ∃ (m r y : Nat) (O : Nat → Prop), e = .returned (.pointer (some ⟨m, 0, none⟩)) ∧ Bx w' m r y O p n V00 (S0B C D) ∧ (∀ k, OwnB m O V00 k → w.heap.size ≤ k) ∧ Below w.heap.size w w'
theorem imC_copy (p len : Nat) (f : Nat → Int) : putC Z0 0 (min len (1024 * p)) f = imC p len f := by
  have h : inB p 0 ((min len (1024 * p) : Nat) : Int) = true := by unfold inB; apply decide_eq_true; omega
  rw [← imC_put]
  unfold uC
  rw [h]
  rfl
set_option maxRecDepth 100000 in
set_option maxHeartbeats 2000000 in
theorem bnewr_any {Q Q2 : Nat → Prop} (pages : Int) (p : Nat) (hp : clampP pages = p) (iv dv : Value) (li ld : Nat) (fi fd : Nat → Int) (w : World) (hi : ByAt Q w iv li fi) (hd : ByAt Q2 w dv ld fd) (hli : li ≤ 10000) (hld : ld ≤ 4096) :
    Calls Tryz.prog 6 #[.int .i64 pages, iv, dv] w (NewBx w p (nS ld) (imC p li fi) (imD ld fd)) := by
  have HBi := Lib.hid (fun j (hj : j < li) => hi.bounds j hj)
  have HBd := Lib.hid (fun j (hj : j < ld) => hd.bounds j hj)
  have H1 := Lib.hid (nnew_any pages p hp w)
  have hm1 := make_m (nS ld) (((ld : Int) + 64 - 1) / 64 * 64) (by unfold nS; omega) (by unfold nS; omega)
  obtain ⟨sp, c, rfl, hz1⟩ := hi.one
  obtain ⟨sp2, c2, rfl, hz2⟩ := hd.one
  clear hz1 hz2
  have HHi := Lib.hid hi
  have HHd := Lib.hid hd
  clear hi hd
  go_enter Tryz.func6, Tryz.ntmps6
  go_wp2_with fail
  with_reducible refine H1.out.mono ?_
  rintro e w1 ⟨r, M, rfl, ho, hr1, hb⟩
  obtain ⟨b, mm, tt, hO, hmem⟩ := hr1
  have c0r := hmem.cell0
  have p2 := hmem.p2
  obtain ⟨w2, hw2⟩ : ∃ w2, w1.alloc (.cells #[.pointer (some ⟨r, 0, none⟩), .slice none 0 0, .int .i64 0, .int .u32 0, .int .u32 0, .int .u32 0, .int .u32 0, .int .u32 0, .int .u32 0, .slice none 0 0, .slice none 0 0, .bool false, .int .u32 0, .slice none 0 0, .int .u32 0, .int .u32 0, .int .u32 0, .int .u32 0, .int .u32 0, .int .u32 0, .int .u32 0, .int .u32 0, .slice none 0 0, .int .u32 0, .int .u32 0] 59) = w2 := ⟨_, rfl⟩
  have hbl2 : Below w1.heap.size w1 w2 := by rw [← hw2]; exact (Below.refl _ _).alloc (Nat.le_refl _) _
  have R2 : w2.rowIs w1.heap.size 59 25 (bc r (.slice none 0 0)) := by
    rw [← hw2]
    refine World.rowIs_alloc w1 _ _ _ fun i hi => ?_
    have hi : i < 25 := hi
    have : i = 0 ∨ i = 1 ∨ i = 2 ∨ i = 3 ∨ i = 4 ∨ i = 5 ∨ i = 6 ∨ i = 7 ∨ i = 8 ∨ i = 9 ∨ i = 10 ∨ i = 11 ∨ i = 12 ∨ i = 13 ∨ i = 14 ∨ i = 15 ∨ i = 16 ∨ i = 17 ∨ i = 18 ∨ i = 19 ∨ i = 20 ∨ i = 21 ∨ i = 22 ∨ i = 23 ∨ i = 24 := by omega
    rcases this with rfl | rfl | rfl | rfl | rfl | rfl | rfl | rfl | rfl | rfl | rfl | rfl | rfl | rfl | rfl | rfl | rfl | rfl | rfl | rfl | rfl | rfl | rfl | rfl | rfl <;> rfl
  have hmem2 := hmem.keep (S := fun _ => False) (Fr.of_below hbl2) id id id id
  have hs1 := hb.size
  have hs2 : w2.heap.size = w1.heap.size + 1 := by rw [← hw2]; simp
  have hbm : b < w1.heap.size := hmem.hb.lt
  have hne : ¬ w1.heap.size = b := by omega
  have hi2 : ByAt Q w2 (.slice sp li c) li fi := HHi.out.fr (Fr.of_below (S := fun _ => False) (hb.trans (hbl2.mono hs1))) (fun _ _ _ => id)
  have HC : Hid (0 < min li (1024 * p) → ∃ ad, sp = some ad ∧ ∀ j, j < min li (1024 * p) → w2.cell? (ad.add j) = some (.int .u8 (fi j))) := by
    intro hp
    obtain ⟨sp3, c3, e3, h3⟩ := hi2.one
    injection e3 with e3 _ _
    obtain ⟨ad, ha, hc⟩ := h3 (by omega)
    exact ⟨ad, by rw [e3, ha], fun j hj => hc j (by omega)⟩
  have hrow := hmem2.hb
  have c0r2 : w2.cell? ⟨r, 0, none⟩ = some (.slice (some ⟨b, 0, none⟩) (1024 * p) (1024 * p)) := hmem2.cell0
  rw [← hw2] at HC hrow
  have hrl : r < w1.heap.size := hmem.st.lt
  have HW2 := Lib.hid hw2
  clear hi2 hw2
  go_wp2_with (with_reducible refine wpList_copy_row rfl (.tmp 19) (.tmp 20) 24 24 rfl 5 Tryz.underlying24 size_u8 _ _ _ _ _ _ rfl rfl b 0 (1024 * p) 5 _ hrow (min li (1024 * p)) ?hmin (fun i => .int .u8 (fi i)) ?hpos (by omega) (fun _ => rfl) ?_)
  case hmin => rfl
  case hpos => exact fun hp => HC.out hp
  intro w3 hr3 hf3
  rw [HW2.out] at hf3
  have hmem3 := hmem2.putB (A := 0) (n := min li (1024 * p)) (f := fi) (hr3.congr fun i _ => by
    by_cases q : i < min li (1024 * p)
    · rw [if_pos q, if_pos (by omega)]; rfl
    · rw [if_neg q, if_neg (by omega)]) hf3 (fun j hj => HBi.out j (by omega))
  rw [imC_copy] at hmem3
  have R3 := R2.of_block (hf3.block _ R2.lt hne)
  have hs3 : w2.heap.size ≤ w3.heap.size := hf3.size
  have k22 : w3.cell? ⟨w1.heap.size, 22, none⟩ = some (.slice none 0 0) := R3.cell (i := 22) (by omega)
  have z22 := R3.frozen 22
  have hl3 : w1.heap.size < w3.heap.size := by omega
  have hb3 : Below w.heap.size w w3 := (hb.trans (hbl2.mono hs1)).trans (hf3.below (by omega) (fun k hk e => by
    have : M b := by rw [hO]; exact .inr (.inl rfl)
    have := ho b this
    omega))
  clear hrow HC c0r c0r2 hr3
  obtain ⟨w5, hw5⟩ : ∃ w5, (w3.setCell ⟨w1.heap.size, 22, none⟩ (.slice (some ⟨w3.heap.size, 0, none⟩) (64 * nS ld) (64 * nS ld))).alloc (.cells (madeCells #[.int .u8 0] (64 * nS ld)) 5) = w5 := ⟨_, rfl⟩
  have e3s : (w3.setCell ⟨w1.heap.size, 22, none⟩ (.slice (some ⟨w3.heap.size, 0, none⟩) (64 * nS ld) (64 * nS ld))).heap.size = w3.heap.size := by simp
  have R5 : w5.rowIs w1.heap.size 59 25 (bc r (.slice (some ⟨w3.heap.size, 0, none⟩) (64 * nS ld) (64 * nS ld))) := by
    rw [← hw5]
    refine World.rowIs.alloc ?_ _
    refine (R3.set 22 _).congr fun i hi => ?_
    have hi : i < 25 := hi
    have : i = 0 ∨ i = 1 ∨ i = 2 ∨ i = 3 ∨ i = 4 ∨ i = 5 ∨ i = 6 ∨ i = 7 ∨ i = 8 ∨ i = 9 ∨ i = 10 ∨ i = 11 ∨ i = 12 ∨ i = 13 ∨ i = 14 ∨ i = 15 ∨ i = 16 ∨ i = 17 ∨ i = 18 ∨ i = 19 ∨ i = 20 ∨ i = 21 ∨ i = 22 ∨ i = 23 ∨ i = 24 := by omega
    rcases this with rfl | rfl | rfl | rfl | rfl | rfl | rfl | rfl | rfl | rfl | rfl | rfl | rfl | rfl | rfl | rfl | rfl | rfl | rfl | rfl | rfl | rfl | rfl | rfl | rfl <;> rfl
  have f35 : Fr (fun k => k = w1.heap.size) w3 w5 := by
    rw [← hw5]
    exact ((Fr.refl (fun k => k = w1.heap.size) w3).setCell (x := ⟨w1.heap.size, 22, none⟩) (.inl rfl) _).alloc _
  have Y5 : w5.rowIs w3.heap.size 5 (64 * nS ld) (fun _ => .int .u8 0) := by
    rw [← hw5]
    have := World.rowIs_made (w3.setCell ⟨w1.heap.size, 22, none⟩ (.slice (some ⟨w3.heap.size, 0, none⟩) (64 * nS ld) (64 * nS ld))) (.int .u8 0) (64 * nS ld) 5
    rw [e3s] at this
    exact this
  have f05 : Fr (fun k => w.heap.size ≤ k) w w5 := ((Fr.of_below (S := fun k => w.heap.size ≤ k) hb3)).trans (f35.mono (fun k e => by omega))
  have hd5 : ByAt Q2 w5 (.slice sp2 ld c2) ld fd := HHd.out.fr f05 (fun k _ hk e => by omega)
  have HC5 : Hid (0 < min ld (64 * nS ld) → ∃ ad, sp2 = some ad ∧ ∀ j, j < min ld (64 * nS ld) → w5.cell? (ad.add j) = some (.int .u8 (fd j))) := by
    intro hp
    obtain ⟨sp3, c3, e3, h3⟩ := hd5.one
    injection e3 with e3 _ _
    obtain ⟨ad, ha, hc⟩ := h3 (by omega)
    exact ⟨ad, by rw [e3, ha], fun j hj => hc j (by omega)⟩
  have hs5 : w5.heap.size = w3.heap.size + 1 := by rw [← hw5]; simp
  have hmem5 := hmem3.keep f35 (by have := hmem.st.lt; omega) (by omega) (by have := hmem.hm.lt; omega) (by have := hmem.ht.lt; omega)
  have HM := Lib.hid (And.intro hmem.st.lt (And.intro hmem.hb.lt (And.intro hmem.hm.lt hmem.ht.lt)))
  have Y5L := Y5
  rw [← hw5] at HC5 Y5L
  have HW5 := Lib.hid hw5
  have HHP := Lib.hid hd5
  clear hw5 hd5 e3s HHi HHd hmem hmem2 hmem3 R2 R3 hbl2
  go_wp2_with (with_reducible refine wpList_copy_row rfl (.tmp 39) (.tmp 40) 24 24 rfl 5 Tryz.underlying24 size_u8 _ _ _ _ _ _ rfl rfl w3.heap.size 0 (64 * nS ld) 5 _ Y5L (min ld (64 * nS ld)) ?hmin2 (fun i => .int .u8 (fd i)) ?hpos2 (by omega) (fun _ => rfl) ?_)
  case hmin2 => rfl
  case hpos2 => exact fun hp => HC5.out hp
  intro w6 hr6 hf6
  rw [HW5.out] at hf6
  have R6 := R5.of_block (hf6.block _ R5.lt (by omega))
  obtain ⟨m1, m2, m3, m4⟩ := HM.out
  have hmem6 := hmem5.keep hf6 (by omega) (by omega) (by omega) (by omega)
  have Y6 : w6.rowIs w3.heap.size 5 (64 * nS ld) (fun i => .int .u8 (imD ld fd i)) := im_row rfl hr6
  have hMlt : ∀ k, M k → k < w1.heap.size := by
    intro k hk
    rw [hO] at hk
    rcases hk with rfl | rfl | rfl | rfl <;> assumption
  have hN := bx_new w6 w1.heap.size r w3.heap.size p (nS ld) M _ _ R6 ⟨b, mm, tt, hO, hmem6⟩ Y6 (imD_bd HBd.out) (fun e => by have := hMlt _ e; omega) (fun e => by have := hMlt _ e; omega) (by omega)
  have f06 : Fr (fun k => w.heap.size ≤ k) w w6 := f05.trans (hf6.mono (fun k e => by omega))
  clear hr6 Y5L R5 Y5 hm1
  go_wp2
  go_ret
  refine ⟨_, _, _, _, rfl, hN, ?_, f06.below (Nat.le_refl _) (fun k hk e => by omega)⟩
  rintro k ⟨i, hi, hk⟩
  match i, hi with
  | 0, _ => obtain rfl : k = w1.heap.size := hk; exact hs1
  | 1, _ => exact absurd (show Value.ownBlock (.slice none 0 0) = some k from hk) (by intro e; cases e)
  | 2, _ => exact absurd (show Value.ownBlock (.slice none 0 0) = some k from hk) (by intro e; cases e)
  | 3, _ => exact absurd (show Value.ownBlock (.slice none 0 0) = some k from hk) (by intro e; cases e)
  | 4, _ => exact absurd (show Value.ownBlock (.slice none 0 0) = some k from hk) (by intro e; cases e)
  | 5, _ =>
    rcases (show M k ∨ k = w3.heap.size from hk) with e | rfl
    · exact ho k e
    · omega
end Go.Proofs.YtkfedihaldpgmaaGreat
