/-
  Chapter 14: the document's bus as far as a disk reaches: Line, Word.
-/
import Derived.Test.YtifhnidcdfpabaaBt11
import Derived.Test.YtifhnidcdfpabaaDe14
namespace Go.Proofs.Ytifhnidcdfpabaa
open Go.RowKit
set_option linter.unusedVariables false
set_option linter.unusedSimpArgs false
/-- the other cells of a bus: its memory, the disk's four words and its bytes, and C of all others -/
def cD (C : Nat → Value) (r y n : Nat) (S : DS) : Nat → Value
  | 0 => .pointer (some ⟨r, 0, none⟩)
  | 18 => .int .u32 S.z
  | 19 => .int .u32 S.t
  | 20 => .int .u32 S.c
  | 21 => .int .u32 (sw S.bz S.dn S.er)
  | 22 => .slice (some ⟨y, 0, none⟩) (64 * n) (64 * n)
  | j => C j
theorem cD_eq {C : Nat → Value} {r y n : Nat} {S : DS} {i : Nat} {u : Value} {S2 : DS} (h4 : i = 18 ∧ cD C r y n S2 18 = u ∧ S2.t = S.t ∧ S2.c = S.c ∧ S2.bz = S.bz ∧ S2.dn = S.dn ∧ S2.er = S.er ∨ i = 19 ∧ cD C r y n S2 19 = u ∧ S2.z = S.z ∧ S2.c = S.c ∧ S2.bz = S.bz ∧ S2.dn = S.dn ∧ S2.er = S.er ∨ i = 20 ∧ cD C r y n S2 20 = u ∧ S2.z = S.z ∧ S2.t = S.t ∧ S2.bz = S.bz ∧ S2.dn = S.dn ∧ S2.er = S.er ∨ i = 21 ∧ cD C r y n S2 21 = u ∧ S2.z = S.z ∧ S2.t = S.t ∧ S2.c = S.c) (j : Nat) (hj : j < 25) : (if j = i then u else cD C r y n S j) = cD C r y n S2 j := by
  have : j = 0 ∨ j = 1 ∨ j = 2 ∨ j = 3 ∨ j = 4 ∨ j = 5 ∨ j = 6 ∨ j = 7 ∨ j = 8 ∨ j = 9 ∨ j = 10 ∨ j = 11 ∨ j = 12 ∨ j = 13 ∨ j = 14 ∨ j = 15 ∨ j = 16 ∨ j = 17 ∨ j = 18 ∨ j = 19 ∨ j = 20 ∨ j = 21 ∨ j = 22 ∨ j = 23 ∨ j = 24 := by omega
  obtain ⟨z, t, c, bz, dn, er, q, a, E, D⟩ := S
  obtain ⟨z2, t2, c2, bz2, dn2, er2, q2, a2, E2, D2⟩ := S2
  rcases h4 with ⟨rfl, hu, h1, h2, h3, h5, h6⟩ | ⟨rfl, hu, h1, h2, h3, h5, h6⟩ | ⟨rfl, hu, h1, h2, h3, h5, h6⟩ | ⟨rfl, hu, h1, h2, h3⟩
  all_goals
    subst hu
    rcases this with rfl | rfl | rfl | rfl | rfl | rfl | rfl | rfl | rfl | rfl | rfl | rfl | rfl | rfl | rfl | rfl | rfl | rfl | rfl | rfl | rfl | rfl | rfl | rfl | rfl <;> (first | rfl | (simp only at h1 h2 h3; subst h1 h2 h3; rfl) | (simp only at h1 h2 h3 h5 h6; subst h1 h2 h3 h5 h6; rfl))
/-- block m is the document's bus: its wheel's slice is u, its memory is in block r, of p pages, its disk's bytes in block y, of n sectors (their blocks: O); its disk is S -/
structure Bu (C : Nat → Value) (w : World) (m r y : Nat) (O : Nat → Prop) (p n : Nat) (u : Value) (S : DS) : Prop where
  wb : Wb (cD C r y n S) w m u (qL 5 S.q) S.a
  mm : Mk 81 w r y O p n S.C S.D
  wm : ∀ k, Own m u k → ¬ O k
/-- it returns v; the disk is S2 then -/
def RetU (v : Value) (C : Nat → Value) (w : World) (m r y : Nat) (O : Nat → Prop) (p n : Nat) (u : Value) (S2 : DS) (e : Ending) (w' : World) : Prop :=
  e = .returned v ∧ ∃ u2, Bu C w' m r y O p n u2 S2 ∧ CD m m O u u2 w w'
section
variable {C : Nat → Value} {w w' : World} {m r y : Nat} {O : Nat → Prop} {p n : Nat} {u u2 : Value} {S S2 : DS}
theorem Bu.b0 (h : Bu C w m r y O p n u S) : w.cell? ⟨m, 0, none⟩ = some (.pointer (some ⟨r, 0, none⟩)) := h.wb.cC 0 (by omega) (by omega) (by omega)
theorem Bu.b18 (h : Bu C w m r y O p n u S) : w.cell? ⟨m, 18, none⟩ = some (.int .u32 S.z) := h.wb.cC 18 (by omega) (by omega) (by omega)
theorem Bu.b19 (h : Bu C w m r y O p n u S) : w.cell? ⟨m, 19, none⟩ = some (.int .u32 S.t) := h.wb.cC 19 (by omega) (by omega) (by omega)
theorem Bu.b20 (h : Bu C w m r y O p n u S) : w.cell? ⟨m, 20, none⟩ = some (.int .u32 S.c) := h.wb.cC 20 (by omega) (by omega) (by omega)
theorem Bu.b21 (h : Bu C w m r y O p n u S) : w.cell? ⟨m, 21, none⟩ = some (.int .u32 (sw S.bz S.dn S.er)) := h.wb.cC 21 (by omega) (by omega) (by omega)
theorem Bu.b22 (h : Bu C w m r y O p n u S) : w.cell? ⟨m, 22, none⟩ = some (.slice (some ⟨y, 0, none⟩) (64 * n) (64 * n)) := h.wb.cC 22 (by omega) (by omega) (by omega)
theorem Bu.fr {Q : Nat → Prop} (h : Bu C w m r y O p n u S) (f : Fr Q w w') (hs : ∀ k, OwnD m m O u k → ¬ Q k) : Bu C w' m r y O p n u S :=
  ⟨h.wb.fr f (fun k hk => hs k (.inr (.inl hk))), h.mm.fr f (fun k hk => hs k (.inr (.inr hk))), h.wm⟩
theorem Bu.lt (h : Bu C w m r y O p n u S) : ∀ k, OwnD m m O u k → k < w.heap.size := by
  rintro k (rfl | hk | hk)
  · exact h.wb.lt _ (.inl rfl)
  · exact h.wb.lt k hk
  · exact h.mm.lt k hk
theorem Bu.drewN (h : Bu C w m r y O p n u S) (k : Nat) : Bu C (w.drewN k) m r y O p n u S := h.fr ((Fr.refl (fun _ => False) w).drewN k) (fun _ _ => id)
theorem Bu.no (h : Bu C w m r y O p n u S) (f : Fr (fun _ => False) w w') : Bu C w' m r y O p n u S := h.fr f (fun _ _ => id)
theorem Bu.below (h : Bu C w m r y O p n u S) (b : Below w.heap.size w w') : Bu C w' m r y O p n u S := h.no (Fr.of_below (S := fun _ => False) b)
/-- its wheel is another one -/
theorem Bu.wheel (h : Bu C w m r y O p n u S) {q : Option (Int × Int)} {a : Int} (hw : Wb (cD C r y n S) w' m u2 (qL 5 q) a) (hch : Ch m u u2 w w') : Bu C w' m r y O p n u2 { S with q := q, a := a } := by
  refine ⟨hw, h.mm.fr hch.fr (fun k hk e => h.wm k e hk), ?_⟩
  rintro k (e | e)
  · exact h.wm k (.inl e)
  · rcases hch.nw _ e with e | e
    · exact h.wm k (.inr e)
    · intro ho; have := h.mm.lt k ho; omega
/-- its memory or its disk's bytes have turned -/
theorem Bu.mem (h : Bu C w m r y O p n u S) {E D : Nat → Int} (hm : Mk 81 w' r y O p n E D) (f : Fr O w w') : Bu C w' m r y O p n u { S with C := E, D := D } :=
  ⟨h.wb.fr f (fun k hk => h.wm k hk), hm, h.wm⟩
theorem Bu.same (h : Bu C w m r y O p n u S) (hr : w'.rowIs y 5 (64 * n) (fun i => .int .u8 (S.D i))) (hf : Fr (fun k => k = y) w w') : Bu C w' m r y O p n u { S with C := S.C, D := S.D } := h.mem (h.mm.same hr hf) (h.mm.fr_row hf)
theorem Bu.setX (h : Bu C w m r y O p n u S) (i : Nat) (v : Value) (hi : i = 18 ∨ i = 19 ∨ i = 20 ∨ i = 21) (z t c : Int) (bz dn er : Bool) (hc : ∀ j, j < 25 → (if j = i then v else cD C r y n S j) = cD C r y n { S with z := z, t := t, c := c, bz := bz, dn := dn, er := er } j) :
    Bu C (w.setCell ⟨m, i, none⟩ v) m r y O p n u { S with z := z, t := t, c := c, bz := bz, dn := dn, er := er } := by
  have fr : Fr (fun k => k = m) w (w.setCell ⟨m, i, none⟩ v) := (Fr.refl (fun k => k = m) w).setCell (x := ⟨m, i, none⟩) (.inl rfl) v
  exact ⟨(h.wb.setC i v (by omega) (by omega)).congr hc, h.mm.fr fr (fun k hk e => h.wm k (.inl e) hk), h.wm⟩
theorem Bu.setZ (h : Bu C w m r y O p n u S) (b : Int) : Bu C (w.setCell ⟨m, 18, none⟩ (.int .u32 b)) m r y O p n u { S with z := b } :=
  h.setX 18 (.int .u32 b) (by omega) b S.t S.c S.bz S.dn S.er (cD_eq (.inl ⟨rfl, rfl, rfl, rfl, rfl, rfl, rfl⟩))
theorem Bu.setT (h : Bu C w m r y O p n u S) (b : Int) : Bu C (w.setCell ⟨m, 19, none⟩ (.int .u32 b)) m r y O p n u { S with t := b } :=
  h.setX 19 (.int .u32 b) (by omega) S.z b S.c S.bz S.dn S.er (cD_eq (.inr (.inl ⟨rfl, rfl, rfl, rfl, rfl, rfl, rfl⟩)))
theorem Bu.setN (h : Bu C w m r y O p n u S) (b : Int) : Bu C (w.setCell ⟨m, 20, none⟩ (.int .u32 b)) m r y O p n u { S with c := b } :=
  h.setX 20 (.int .u32 b) (by omega) S.z S.t b S.bz S.dn S.er (cD_eq (.inr (.inr (.inl ⟨rfl, rfl, rfl, rfl, rfl, rfl, rfl⟩))))
theorem Bu.setS (h : Bu C w m r y O p n u S) (b : Int) (bz dn er : Bool) (hn : b = sw bz dn er) : Bu C (w.setCell ⟨m, 21, none⟩ (.int .u32 b)) m r y O p n u { S with bz := bz, dn := dn, er := er } := by
  subst hn
  exact h.setX 21 (.int .u32 (sw bz dn er)) (by omega) S.z S.t S.c bz dn er (cD_eq (.inr (.inr (.inr ⟨rfl, rfl, rfl, rfl, rfl⟩))))
theorem CD.setB (m : Nat) (O : Nat → Prop) (u : Value) (w : World) (i : Nat) (v : Value) : CD m m O u u w (w.setCell ⟨m, i, none⟩ v) := CD.set m m O u w i v
theorem rarm_T {W : World} {D : Nat → Value} {a : Int} {q : Option (Int × Int)} (T : Int) (hw : Wb D W m u (qL 5 q) a) (hok : okB 5 T = true) (ha : 0 ≤ a ∧ a ≤ 1000000) :
    Calls Try.prog 40 #[.pointer (some ⟨m, 1, none⟩), .int .i64 5, .int .i64 T] W (RetX D (.bool true) W m u (qL 5 (some (T, a))) (a + 1)) := by
  have hl := qL_len 5 q
  have := rarm_any 5 T hw (by omega) ha
  unfold armL armA at this
  rw [hok, if_pos rfl, if_pos rfl, arm_q] at this
  exact this
set_option maxRecDepth 100000 in
set_option maxHeartbeats 1000000 in
theorem rline_any (h : Bu C w m r y O p n u S) :
    Calls Try.prog 29 #[.pointer (some ⟨m, 0, none⟩), .int .i64 5] w fun e w' => e = .returned (.bool (S.dn || S.er)) ∧ w = w' := by
  have k6 := h.b21
  have HE := Lib.hid (sw_is6 S.bz S.dn S.er)
  go_enter Try.func29, Try.ntmps29
  go_wp2
  go_ret
  exact ⟨ret_bool HE.out, rfl⟩
set_option maxHeartbeats 2000000 in
set_option maxRecDepth 100000 in
theorem rword_any (k : Nat) (z now : Int) (h : Bu C w m r y O p n u S) (hk : k ≤ 6) (hz : z = (k : Int) * 4) :
    Calls Try.prog 23 #[.pointer (some ⟨m, 0, none⟩), .int .i64 5, .int .u32 z, .int .i64 now] w (RetB (.tuple #[.int .u32 (wordD k S), .bool (decide (k < 4))]) w) := by
  have b18 := h.b18
  have b19 := h.b19
  have b20 := h.b20
  have b21 := h.b21
  have hgl := h.wb.st.lt
  have hz2 : k = 0 ∧ z = 0 ∨ k = 1 ∧ z = 4 ∨ k = 2 ∧ z = 8 ∨ k = 3 ∧ z = 12 ∨ k = 4 ∧ z = 16 ∨ k = 5 ∧ z = 20 ∨ k = 6 ∧ z = 24 := by omega
  clear hz hk
  rcases hz2 with ⟨rfl, rfl⟩ | ⟨rfl, rfl⟩ | ⟨rfl, rfl⟩ | ⟨rfl, rfl⟩ | ⟨rfl, rfl⟩ | ⟨rfl, rfl⟩ | ⟨rfl, rfl⟩
  all_goals
    go_enter Try.func23, Try.ntmps23
    go_wp2_with fail
    go_region
    go_wp2
    go_ret2
    exact ⟨rfl, (((Below.refl _ _).alloc (Nat.le_refl _) _).alloc (by simp) _).drew⟩
end
end Go.Proofs.Ytifhnidcdfpabaa
