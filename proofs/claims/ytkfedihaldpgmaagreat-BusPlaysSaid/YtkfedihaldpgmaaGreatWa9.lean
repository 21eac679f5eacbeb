/-
  Chapter 9: Arm of package wheel.
-/
import Derived.Test.YtkfedihaldpgmaaGreatWi9
import Derived.Deep.RegionWith
import Derived.Deep.DeepCutAuto
import Derived.Deep.CutBlock
namespace Go.Proofs.YtkfedihaldpgmaaGreat
open Go.RowKit
set_option linter.unusedVariables false
set_option linter.unusedSimpArgs false
section
variable {w : World} {g : Nat} {v : Value} {L : List Ev} {a : Int}
theorem Rw.ev (w : World) (x : Ev) : Rw (w.alloc (.cells #[.int .i64 x.t, .int .i64 x.d, .int .i64 x.s] 84)) w.heap.size 1 x.cells := ⟨heap_alloc_new w _, rfl, by unfold maxLen; omega⟩
theorem Rw.below {w' : World} {X : Nat} {cs : List Value} {n : Nat} (h : Rw w X n cs) (b : Below w.heap.size w w') : Rw w' X n cs := h.fr (Fr.of_below (S := fun _ => False) b) id
theorem okB_no {d t : Int} (h : okB d t = false) : d < 0 ∨ 16 ≤ d ∨ t < 0 := by
  unfold okB at h
  have := of_decide_eq_false h
  omega
theorem Ch.setG (g : Nat) (v : Value) (w : World) (u : Value) : Ch g v v w (w.setCell ⟨g, 1, none⟩ u) := ⟨(Fr.refl (Own g v) w).setCell (x := ⟨g, 1, none⟩) (.inl (.inl rfl)) u, fun _ h => .inl h⟩
/-- the wheel behind Insert and the store -/
theorem arm_end {T : TypeId} {w1 w3 w4 : World} {v2 v3 : Value} {M L2 : List Ev} (h1 : Wh T w1 g v2 M a) (hb : Below w1.heap.size w1 w3) (hO : Ow w4 v3 L2) (hF : Fr (fun k => v2.ownBlock = some k) w3 w4) (hn : ∀ k, v3.ownBlock = some k → v2.ownBlock = some k ∨ w3.heap.size ≤ k) :
    w4.rowIs g T 2 (two v2 (.int .i64 a)) ∧ Wh T (w4.setCell ⟨g, 0, none⟩ v3) g v3 L2 a ∧ Ch g v2 v3 w1 (w4.setCell ⟨g, 0, none⟩ v3) := by
  have h3 := h1.below hb
  have hst := h3.st.of_block (hF.block _ h3.st.lt (fun e => h1.ne e))
  have hg := h1.st.lt
  have hs := hb.size
  refine ⟨hst, Wh.setV hst hO (fun e => ?_), ⟨?_, fun k hk => ?_⟩⟩
  · rcases hn _ e with e | e
    · exact h1.ne e
    · omega
  · exact ((Fr.of_below hb).trans (hF.mono (fun k e => .inr e))).setCell (x := ⟨g, 0, none⟩) (.inl (.inl rfl)) _
  · rcases hn _ hk with e | e
    · exact .inl e
    · exact .inr (by omega)

set_option maxRecDepth 100000 in
set_option maxHeartbeats 8000000 in
theorem arm_yes (d t : Int) (h : Wh 125 w g v L a) (hl : L.length ≤ 999999) (ha : 0 ≤ a ∧ a ≤ 1000000) (d0 : 0 ≤ d) (d1 : d < 16) (t0 : 0 ≤ t) :
    Calls Tryz.prog 113 #[.pointer (some ⟨g, 0, none⟩), .int .i64 d, .int .i64 t] w (RetW 125 (.bool true) w g v (armF d t a L) (a + 1)) := by
  obtain ⟨a0, a1⟩ := ha
  obtain ⟨M, HM⟩ : ∃ M, Hid (delF d L = M) := ⟨_, rfl⟩
  have hM : M.length ≤ 999999 := by rw [← HM.out]; have := delF_len d L; omega
  have hA : Hid (armF d t a L = insF M (ixA t M) ⟨t, d, a⟩) := by show _ = _; unfold armF; rw [HM.out]
  have hix := ixA_le t M
  go_enter Tryz.func113, Tryz.ntmps113
  go_wp2_with fail
  refine (cancel_any d h (by omega)).mono ?_
  rintro e w1 ⟨rfl, v2, h1, hch⟩
  rw [HM.out] at h1
  have k1 := h1.c1
  go_wp2_with fail
  have hb1 : Below w1.heap.size w1 (w1.alloc (.cells #[.int .i64 t, .int .i64 d, .int .i64 a] 84)) := (Below.refl _ _).alloc (Nat.le_refl _) _
  have h2 := h1.below hb1
  have c0 := h2.c0
  have hbox := ev_row w1 ⟨t, d, a⟩
  have y0 := hbox.cell (i := 0) (by omega)
  have y1 := hbox.cell (i := 1) (by omega)
  have y2 := hbox.cell (i := 2) (by omega)
  simp only [three] at y0 y1 y2
  obtain ⟨X0, HX0⟩ : ∃ X0, Hid (X0 = w1.heap.size) := ⟨_, rfl⟩
  rw [← HX0.out] at y0 y1 y2 ⊢
  generalize w1.alloc (.cells #[.int .i64 t, .int .i64 d, .int .i64 a] 84) = W at hb1 h2 c0 y0 y1 y2 ⊢
  have hWs : w1.heap.size ≤ W.heap.size := hb1.size
  have hX0l : X0 < W.heap.size := block_lt_of_cell y0
  have h2d : Wh 125 W.drew g v2 M a := h2.drewN 1
  have hb2 : Below W.drew.heap.size W.drew (W.drew.alloc (.cells #[.int .i64 t, .int .i64 d, .int .i64 a] 84)) := (Below.refl _ _).alloc (Nat.le_refl _) _
  have h2a : Wh 125 (W.drew.alloc (.cells #[.int .i64 t, .int .i64 d, .int .i64 a] 84)) g v2 M a := h2d.below hb2
  have hRa := Rw.ev W.drew ⟨t, d, a⟩
  have hgl : g < W.heap.size := h2.st.lt
  have hg1 : ¬ g = W.heap.size := by omega
  have hg2 : ¬ X0 = W.heap.size := by omega
  have hchW : Ch g v v2 w W.drew := (hch.trans (Ch.of_below hb1)).trans (Ch.of_below ((Below.refl _ _).drew))
  clear h2 hbox k1 h
  go_region_with (first
    | (go_at_call 116; refine (behind_any t h2d (by omega)).mono ?_; rintro e w3 ⟨rfl, hb3⟩; have h3 := h2d.below hb3; have c03 := h3.c0; have hg3 : g < w3.heap.size := h3.st.lt; have z0 := cell_fr (Fr.of_below (S := fun _ => False) hb3) y0 id; have z1 := cell_fr (Fr.of_below (S := fun _ => False) hb3) y1 id; have z2 := cell_fr (Fr.of_below (S := fun _ => False) hb3) y2 id; have hRb := Rw.ev w3 ⟨t, d, a⟩; have hbb : Below w3.heap.size w3 (w3.alloc (.cells #[.int .i64 t, .int .i64 d, .int .i64 a] 84)) := (Below.refl _ _).alloc (Nat.le_refl _) _; have hnb : v2.ownBlock ≠ some w3.heap.size := fun e => Nat.lt_irrefl _ (h3.lt _ (.inr e)); have h4 := h3.below hbb; have hbc := hb3.trans (hbb.mono hb3.size))
    | (go_at_call 116; refine (behind_any t h2a (by omega)).mono ?_; rintro e w3 ⟨rfl, hb3⟩; have h4 := h2a.below hb3; have c03 := h4.c0; have hRb := hRa.below hb3; have hnb : v2.ownBlock ≠ some W.drew.heap.size := fun e => Nat.lt_irrefl _ (h2d.lt _ (.inr e)); have hbc := hb2.trans (hb3.mono hb2.size))
    | (go_at_call 115; refine (insert_any h4.ev hRb hnb hix hM).mono ?_; rintro e w5 ⟨v3, rfl, hO, hF, hn⟩; obtain ⟨A3, c3, rfl, q3, q4, q5, q6⟩ := hO.form; clear q3 q4 q5 q6; obtain ⟨hst, hw5, hch5⟩ := arm_end h2d hbc hO hF hn; have k0 : w5.cell? ⟨g, 0, none⟩ = some v2 := hst.cell (i := 0) (by omega); have kz := hst.frozen 0))
  all_goals
    generalize w5.setCell ⟨g, 0, none⟩ (.slice A3 (insF M (ixA t M) ⟨t, d, a⟩).length c3) = W5 at hw5 hch5 ⊢
    clear hst k0 kz hO hF hn hRb hnb h4 hbc c03
    have l1 := hw5.c1
    have lz := hw5.st.frozen 1
    go_wp2
    go_ret
    exact ⟨rfl, _, by rw [hA.out]; exact hw5.setA (a + 1), ((hchW.trans hch5).trans (Ch.setG _ _ _ _))⟩

set_option maxHeartbeats 1000000 in
theorem arm_no (d t : Int) (h : Wh 125 w g v L a) (hk : d < 0 ∨ 16 ≤ d ∨ t < 0) :
    Calls Tryz.prog 113 #[.pointer (some ⟨g, 0, none⟩), .int .i64 d, .int .i64 t] w (RetW 125 (.bool false) w g v L a) := by
  by_cases h1 : d < 0
  · go_enter Tryz.func113, Tryz.ntmps113
    clear hk
    go_wp2
    go_ret
    exact ⟨rfl, v, h, Ch.refl _ _ _⟩
  · by_cases h2 : 16 ≤ d
    · go_enter Tryz.func113, Tryz.ntmps113
      clear hk
      go_wp2
      go_ret
      exact ⟨rfl, v, h, Ch.refl _ _ _⟩
    · have h3 : t < 0 := by omega
      go_enter Tryz.func113, Tryz.ntmps113
      clear hk
      go_wp2
      go_ret
      exact ⟨rfl, v, h, Ch.refl _ _ _⟩
theorem arm_any (d t : Int) (h : Wh 125 w g v L a) (hl : L.length ≤ 999999) (ha : 0 ≤ a ∧ a ≤ 1000000) :
    Calls Tryz.prog 113 #[.pointer (some ⟨g, 0, none⟩), .int .i64 d, .int .i64 t] w (RetW 125 (.bool (okB d t)) w g v (armL d t a L) (armA d t a)) := by
  unfold armL armA
  cases hk : okB d t
  · exact arm_no d t h (okB_no hk)
  · have hk' := hk
    unfold okB at hk'
    obtain ⟨d0, d1, t0⟩ := of_decide_eq_true hk'
    exact arm_yes d t h hl ha d0 d1 t0
end
end Go.Proofs.YtkfedihaldpgmaaGreat
