/-
  Chapter 13: the document's bus as far as a mover reaches: Line, Word, Set of dma.
-/
import Derived.Test.YtamaonkepfkgnaaBt11
import Derived.Test.YtamaonkepfkgnaaDw13
namespace Go.Proofs.Ytamaonkepfkgnaa
open Go.RowKit
set_option linter.unusedVariables false
set_option linter.unusedSimpArgs false
/-- the other cells of a bus: its memory, the mover's four words, and C of all others -/
def cD (C : Nat → Value) (r : Nat) (S : DS) : Nat → Value
  | 0 => .pointer (some ⟨r, 0, none⟩)
  | 14 => .int .u32 S.f
  | 15 => .int .u32 S.t
  | 16 => .int .u32 S.c
  | 17 => .int .u32 (sw S.bz S.dn S.er)
  | j => C j
theorem cD_eq {C : Nat → Value} {r : Nat} {S : DS} {i : Nat} {u : Value} {S2 : DS} (hi : i = 14 ∨ i = 15 ∨ i = 16 ∨ i = 17) (h4 : i = 14 ∧ cD C r S2 14 = u ∧ S2.t = S.t ∧ S2.c = S.c ∧ S2.bz = S.bz ∧ S2.dn = S.dn ∧ S2.er = S.er ∨ i = 15 ∧ cD C r S2 15 = u ∧ S2.f = S.f ∧ S2.c = S.c ∧ S2.bz = S.bz ∧ S2.dn = S.dn ∧ S2.er = S.er ∨ i = 16 ∧ cD C r S2 16 = u ∧ S2.f = S.f ∧ S2.t = S.t ∧ S2.bz = S.bz ∧ S2.dn = S.dn ∧ S2.er = S.er ∨ i = 17 ∧ cD C r S2 17 = u ∧ S2.f = S.f ∧ S2.t = S.t ∧ S2.c = S.c) (j : Nat) (hj : j < 25) : (if j = i then u else cD C r S j) = cD C r S2 j := by
  have : j = 0 ∨ j = 1 ∨ j = 2 ∨ j = 3 ∨ j = 4 ∨ j = 5 ∨ j = 6 ∨ j = 7 ∨ j = 8 ∨ j = 9 ∨ j = 10 ∨ j = 11 ∨ j = 12 ∨ j = 13 ∨ j = 14 ∨ j = 15 ∨ j = 16 ∨ j = 17 ∨ j = 18 ∨ j = 19 ∨ j = 20 ∨ j = 21 ∨ j = 22 ∨ j = 23 ∨ j = 24 := by omega
  obtain ⟨f, t, c, bz, dn, er, q, a, D⟩ := S
  obtain ⟨f2, t2, c2, bz2, dn2, er2, q2, a2, D2⟩ := S2
  rcases h4 with ⟨rfl, hu, h1, h2, h3, h5, h6⟩ | ⟨rfl, hu, h1, h2, h3, h5, h6⟩ | ⟨rfl, hu, h1, h2, h3, h5, h6⟩ | ⟨rfl, hu, h1, h2, h3⟩
  all_goals
    subst hu
    rcases this with rfl | rfl | rfl | rfl | rfl | rfl | rfl | rfl | rfl | rfl | rfl | rfl | rfl | rfl | rfl | rfl | rfl | rfl | rfl | rfl | rfl | rfl | rfl | rfl | rfl <;> (first | rfl | (simp only at h1 h2 h3; subst h1 h2 h3; rfl) | (simp only at h1 h2 h3 h5 h6; subst h1 h2 h3 h5 h6; rfl))
/-- block m is the document's bus: its wheel's slice is u, its memory is in block r (its blocks: O), of p pages; its mover is S -/
structure Bu (C : Nat → Value) (w : World) (m r : Nat) (O : Nat → Prop) (p : Nat) (u : Value) (S : DS) : Prop where
  wb : Wb (cD C r S) w m u (qL 4 S.q) S.a
  mm : Ra 80 w r O p S.C
  wm : ∀ k, Own m u k → ¬ O k
/-- it returns y; the mover is S2 then -/
def RetU (y : Value) (C : Nat → Value) (w : World) (m r : Nat) (O : Nat → Prop) (p : Nat) (u : Value) (S2 : DS) (e : Ending) (w' : World) : Prop :=
  e = .returned y ∧ ∃ u2, Bu C w' m r O p u2 S2 ∧ CD m m O u u2 w w'
section
variable {C : Nat → Value} {w w' : World} {m r : Nat} {O : Nat → Prop} {p : Nat} {u u2 : Value} {S S2 : DS}
theorem Bu.b0 (h : Bu C w m r O p u S) : w.cell? ⟨m, 0, none⟩ = some (.pointer (some ⟨r, 0, none⟩)) := h.wb.cC 0 (by omega) (by omega) (by omega)
theorem Bu.b14 (h : Bu C w m r O p u S) : w.cell? ⟨m, 14, none⟩ = some (.int .u32 S.f) := h.wb.cC 14 (by omega) (by omega) (by omega)
theorem Bu.b15 (h : Bu C w m r O p u S) : w.cell? ⟨m, 15, none⟩ = some (.int .u32 S.t) := h.wb.cC 15 (by omega) (by omega) (by omega)
theorem Bu.b16 (h : Bu C w m r O p u S) : w.cell? ⟨m, 16, none⟩ = some (.int .u32 S.c) := h.wb.cC 16 (by omega) (by omega) (by omega)
theorem Bu.b17 (h : Bu C w m r O p u S) : w.cell? ⟨m, 17, none⟩ = some (.int .u32 (sw S.bz S.dn S.er)) := h.wb.cC 17 (by omega) (by omega) (by omega)
theorem Bu.fr {Q : Nat → Prop} (h : Bu C w m r O p u S) (f : Fr Q w w') (hs : ∀ k, OwnD m m O u k → ¬ Q k) : Bu C w' m r O p u S :=
  ⟨h.wb.fr f (fun k hk => hs k (.inr (.inl hk))), h.mm.fr f (fun k hk => hs k (.inr (.inr hk))), h.wm⟩
theorem Bu.lt (h : Bu C w m r O p u S) : ∀ k, OwnD m m O u k → k < w.heap.size := by
  rintro k (rfl | hk | hk)
  · exact h.wb.lt _ (.inl rfl)
  · exact h.wb.lt k hk
  · exact h.mm.lt k hk
theorem Bu.drewN (h : Bu C w m r O p u S) (n : Nat) : Bu C (w.drewN n) m r O p u S := h.fr ((Fr.refl (fun _ => False) w).drewN n) (fun _ _ => id)
theorem Bu.no (h : Bu C w m r O p u S) (f : Fr (fun _ => False) w w') : Bu C w' m r O p u S := h.fr f (fun _ _ => id)
theorem Bu.below (h : Bu C w m r O p u S) (b : Below w.heap.size w w') : Bu C w' m r O p u S := h.no (Fr.of_below (S := fun _ => False) b)
/-- its wheel is another one -/
theorem Bu.wheel (h : Bu C w m r O p u S) {q : Option (Int × Int)} {a : Int} (hw : Wb (cD C r S) w' m u2 (qL 4 q) a) (hch : Ch m u u2 w w') : Bu C w' m r O p u2 { S with q := q, a := a } := by
  refine ⟨hw, h.mm.fr hch.fr (fun k hk e => h.wm k e hk), ?_⟩
  rintro k (e | e)
  · exact h.wm k (.inl e)
  · rcases hch.nw _ e with e | e
    · exact h.wm k (.inr e)
    · intro ho; have := h.mm.lt k ho; omega
/-- its memory has other bytes -/
theorem Bu.mem (h : Bu C w m r O p u S) {D : Nat → Int} (hm : Ra 80 w' r O p D) (f : Fr O w w') : Bu C w' m r O p u { S with C := D } :=
  ⟨h.wb.fr f (fun k hk => h.wm k hk), hm, h.wm⟩
theorem Bu.setX (h : Bu C w m r O p u S) (i : Nat) (y : Value) (hi : i = 14 ∨ i = 15 ∨ i = 16 ∨ i = 17) (f t c : Int) (bz dn er : Bool) (hc : ∀ j, j < 25 → (if j = i then y else cD C r S j) = cD C r { S with f := f, t := t, c := c, bz := bz, dn := dn, er := er } j) :
    Bu C (w.setCell ⟨m, i, none⟩ y) m r O p u { S with f := f, t := t, c := c, bz := bz, dn := dn, er := er } := by
  have fr : Fr (fun k => k = m) w (w.setCell ⟨m, i, none⟩ y) := (Fr.refl (fun k => k = m) w).setCell (x := ⟨m, i, none⟩) (.inl rfl) y
  exact ⟨(h.wb.setC i y (by omega) (by omega)).congr hc, h.mm.fr fr (fun k hk e => h.wm k (.inl e) hk), h.wm⟩
theorem Bu.setF (h : Bu C w m r O p u S) (n : Int) : Bu C (w.setCell ⟨m, 14, none⟩ (.int .u32 n)) m r O p u { S with f := n } :=
  h.setX 14 (.int .u32 n) (by omega) n S.t S.c S.bz S.dn S.er (cD_eq (by omega) (.inl ⟨rfl, rfl, rfl, rfl, rfl, rfl, rfl⟩))
theorem Bu.setT (h : Bu C w m r O p u S) (n : Int) : Bu C (w.setCell ⟨m, 15, none⟩ (.int .u32 n)) m r O p u { S with t := n } :=
  h.setX 15 (.int .u32 n) (by omega) S.f n S.c S.bz S.dn S.er (cD_eq (by omega) (.inr (.inl ⟨rfl, rfl, rfl, rfl, rfl, rfl, rfl⟩)))
theorem Bu.setN (h : Bu C w m r O p u S) (n : Int) : Bu C (w.setCell ⟨m, 16, none⟩ (.int .u32 n)) m r O p u { S with c := n } :=
  h.setX 16 (.int .u32 n) (by omega) S.f S.t n S.bz S.dn S.er (cD_eq (by omega) (.inr (.inr (.inl ⟨rfl, rfl, rfl, rfl, rfl, rfl, rfl⟩))))
theorem Bu.setS (h : Bu C w m r O p u S) (n : Int) (bz dn er : Bool) (hn : n = sw bz dn er) : Bu C (w.setCell ⟨m, 17, none⟩ (.int .u32 n)) m r O p u { S with bz := bz, dn := dn, er := er } := by
  subst hn
  exact h.setX 17 (.int .u32 (sw bz dn er)) (by omega) S.f S.t S.c bz dn er (cD_eq (by omega) (.inr (.inr (.inr ⟨rfl, rfl, rfl, rfl, rfl⟩))))
theorem CD.setB (m : Nat) (O : Nat → Prop) (u : Value) (w : World) (i : Nat) (y : Value) : CD m m O u u w (w.setCell ⟨m, i, none⟩ y) := CD.set m m O u w i y
theorem rarm_T {W : World} {D : Nat → Value} {a : Int} {q : Option (Int × Int)} (T : Int) (hw : Wb D W m u (qL 4 q) a) (hok : okB 4 T = true) (ha : 0 ≤ a ∧ a ≤ 1000000) :
    Calls Try.prog 39 #[.pointer (some ⟨m, 1, none⟩), .int .i64 4, .int .i64 T] W (RetX D (.bool true) W m u (qL 4 (some (T, a))) (a + 1)) := by
  have hl := qL_len 4 q
  have := rarm_any 4 T hw (by omega) ha
  unfold armL armA at this
  rw [hok, if_pos rfl, if_pos rfl, arm_q] at this
  exact this
set_option maxRecDepth 100000 in
set_option maxHeartbeats 1000000 in
theorem rline_any (h : Bu C w m r O p u S) :
    Calls Try.prog 27 #[.pointer (some ⟨m, 0, none⟩), .int .i64 4] w fun e w' => e = .returned (.bool (S.dn || S.er)) ∧ w = w' := by
  have k6 := h.b17
  have HE := Lib.hid (sw_is6 S.bz S.dn S.er)
  go_enter Try.func27, Try.ntmps27
  go_wp2
  go_ret
  exact ⟨ret_bool HE.out, rfl⟩
set_option maxHeartbeats 2000000 in
set_option maxRecDepth 100000 in
theorem rword_any (k : Nat) (z now : Int) (h : Bu C w m r O p u S) (hk : k ≤ 6) (hz : z = (k : Int) * 4) :
    Calls Try.prog 21 #[.pointer (some ⟨m, 0, none⟩), .int .i64 4, .int .u32 z, .int .i64 now] w (RetB (.tuple #[.int .u32 (wordD k S), .bool (decide (k < 5))]) w) := by
  have b14 := h.b14
  have b15 := h.b15
  have b16 := h.b16
  have b17 := h.b17
  have hgl := h.wb.st.lt
  have hz2 : k = 0 ∧ z = 0 ∨ k = 1 ∧ z = 4 ∨ k = 2 ∧ z = 8 ∨ k = 3 ∧ z = 12 ∨ k = 4 ∧ z = 16 ∨ k = 5 ∧ z = 20 ∨ k = 6 ∧ z = 24 := by omega
  clear hz hk
  rcases hz2 with ⟨rfl, rfl⟩ | ⟨rfl, rfl⟩ | ⟨rfl, rfl⟩ | ⟨rfl, rfl⟩ | ⟨rfl, rfl⟩ | ⟨rfl, rfl⟩ | ⟨rfl, rfl⟩
  all_goals
    go_enter Try.func21, Try.ntmps21
    go_wp2_with fail
    go_region
    go_wp2
    go_ret2
    exact ⟨rfl, (((Below.refl _ _).alloc (Nat.le_refl _) _).alloc (by simp) _).drew⟩
end
end Go.Proofs.Ytamaonkepfkgnaa
