/-
  Chapter 11, from chapter 9's text: as a part of the document's bus: Arm (as one), Take, At of the document's wheel; two lists of events held against each other (Same).
-/
import Derived.Test.YtkfedihaldpgmaaGreatBa11
namespace Go.Proofs.YtkfedihaldpgmaaGreat
open Go.RowKit
set_option linter.unusedVariables false
set_option linter.unusedSimpArgs false
section
variable {C : Nat → Value} {w : World} {g : Nat} {v : Value} {L : List Ev} {a : Int}
set_option maxRecDepth 100000 in
set_option maxHeartbeats 1000000 in
theorem rarm_no (d t : Int) (h : Wb C w g v L a) (hk : d < 0 ∨ 16 ≤ d ∨ t < 0) :
    Calls Tryz.prog 78 #[.pointer (some ⟨g, 1, none⟩), .int .i64 d, .int .i64 t] w (RetX C (.bool false) w g v L a) := by
  by_cases h1 : d < 0
  · go_enter Tryz.func78, Tryz.ntmps78
    clear hk
    go_wp2
    go_ret
    exact ⟨rfl, v, h, Ch.refl _ _ _⟩
  · by_cases h2 : 16 ≤ d
    · go_enter Tryz.func78, Tryz.ntmps78
      clear hk
      go_wp2
      go_ret
      exact ⟨rfl, v, h, Ch.refl _ _ _⟩
    · have h3 : t < 0 := by omega
      go_enter Tryz.func78, Tryz.ntmps78
      clear hk
      go_wp2
      go_ret
      exact ⟨rfl, v, h, Ch.refl _ _ _⟩
theorem rarm_any (d t : Int) (h : Wb C w g v L a) (hl : L.length ≤ 990000) (ha : 0 ≤ a ∧ a ≤ 1000000) :
    Calls Tryz.prog 78 #[.pointer (some ⟨g, 1, none⟩), .int .i64 d, .int .i64 t] w (RetX C (.bool (okB d t)) w g v (armL d t a L) (armA d t a)) := by
  unfold armL armA
  cases hk : okB d t
  · exact rarm_no d t h (okB_no hk)
  · have hk' := hk
    unfold okB at hk'
    obtain ⟨d0, d1, t0⟩ := of_decide_eq_true hk'
    exact rarm_yes d t h hl ha d0 d1 t0

theorem three_set {X : Nat} {u : Ev} (h : w.rowIs X 84 3 (three u)) (x : Ev) : (((w.setCell ⟨X, 0, none⟩ (.int .i64 x.t)).setCell ⟨X, 1, none⟩ (.int .i64 x.d)).setCell ⟨X, 2, none⟩ (.int .i64 x.s)).rowIs X 84 3 (three x) :=
  (((h.set 0 _).set 1 _).set 2 _).congr fun j hj => by
    have : j = 0 ∨ j = 1 ∨ j = 2 := by omega
    rcases this with rfl | rfl | rfl <;> rfl
theorem box_end2 {C : Nat → Value} {w2 : World} {v v2 : Value} {L L2 : List Ev} {a a2 : Int} (h : Wb C w g v L a) (hw : Wb C w2 g v2 L2 a2) (hch : Ch g v v2 w w2) (hn : ∀ k, v2.ownBlock = some k → w.heap.size < k) (u0 u1 u2 : Value) :
    Wb C (((w2.setCell ⟨w.heap.size, 0, none⟩ u0).setCell ⟨w.heap.size, 1, none⟩ u1).setCell ⟨w.heap.size, 2, none⟩ u2) g v2 L2 a2 ∧ Ch g v v2 w (((w2.setCell ⟨w.heap.size, 0, none⟩ u0).setCell ⟨w.heap.size, 1, none⟩ u1).setCell ⟨w.heap.size, 2, none⟩ u2) := by
  have hF := fr3 w2 w.heap.size u0 u1 u2
  generalize ((w2.setCell ⟨w.heap.size, 0, none⟩ u0).setCell ⟨w.heap.size, 1, none⟩ u1).setCell ⟨w.heap.size, 2, none⟩ u2 = W at hF ⊢
  have hg := h.lt g (.inl rfl)
  refine ⟨hw.fr hF ?_, ⟨?_, fun k hk => .inr (Nat.le_of_lt (hn k hk))⟩⟩
  · rintro k (e | e) rfl
    · omega
    · have := hn _ e; omega
  · have h2 := hch.fr
    refine ⟨hF.os.trans h2.os, hF.tape.trans h2.tape, hF.output.trans h2.output, Nat.le_trans h2.size hF.size, fun i hi hn => ?_⟩
    exact (hF.block i (Nat.lt_of_lt_of_le hi h2.size) (by omega)).trans (h2.block i hi hn)
set_option maxRecDepth 100000 in
set_option maxHeartbeats 1000000 in
theorem rtake_any (now : Int) (h : Wb C w g v L a) (hl : L.length ≤ 999999) :
    Calls Tryz.prog 43 #[.pointer (some ⟨g, 1, none⟩), .int .i64 now] w (RetX C (takeV now L) w g v (takeL now L) a) := by
  have hb0 : Below w.heap.size w (w.alloc (.cells #[.int .i64 0, .int .i64 0, .int .i64 0] 84)) := (Below.refl _ _).alloc (Nat.le_refl _) _
  have h0 := h.below hb0
  have c0 := h0.c0
  cases hD : dueB now L
  · have HV : Hid (takeV now L = .tuple #[.agg #[.int .i64 0, .int .i64 0, .int .i64 0], .bool false]) := by show _ = _; unfold takeV takeE; rw [hD]; rfl
    have HL : Hid (takeL now L = L) := by show _ = _; unfold takeL; rw [hD]; rfl
    obtain ⟨A, c, rfl, hc, hcm, hz, hA⟩ := h.ev.form
    cases L with
    | nil =>
      clear hA hz hD
      go_enter Tryz.func43, Tryz.ntmps43
      go_wp2
      refine bodyPost_ret (by simp [results, go_sem]; rfl) rfl ⟨by rw [HV.out], .slice A ([] : List Ev).length c, ?_⟩
      rw [HL.out]
      exact ⟨h0, Ch.of_below hb0⟩
    | cons x r =>
      have hx : now < x.t := by simpa [dueB] using hD
      obtain ⟨b, rfl⟩ := hA (by simp)
      clear hA hz hD
      obtain ⟨q0, q1, q2⟩ := h0.ev.at (i := 0) (by simp)
      rw [Nat.zero_mul] at q0 q1 q2
      simp only [List.getElem_cons_zero, Nat.zero_add] at q0 q1 q2
      have hne : (((x :: r).length : Int) == 0) = false := beq_false_of_ne (by simp; omega)
      go_enter Tryz.func43, Tryz.ntmps43
      go_wp2
      refine bodyPost_ret (by simp [results, go_sem]; rfl) rfl ⟨by rw [HV.out], .slice (some ⟨b, 0, none⟩) (x :: r).length c, ?_⟩
      rw [HL.out]
      exact ⟨h0, Ch.of_below hb0⟩
  · cases L with
    | nil => cases hD
    | cons x r =>
      have hx : x.t ≤ now := by simpa [dueB] using hD
      have HV : Hid (takeV now (x :: r) = .tuple #[.agg #[.int .i64 x.t, .int .i64 x.d, .int .i64 x.s], .bool true]) := by show _ = _; unfold takeV takeE; rw [hD]; rfl
      have HL : Hid (takeL now (x :: r) = r) := by show _ = _; unfold takeL; rw [hD]; rfl
      clear hD
      obtain ⟨A, c, rfl, hc, hcm, hz, hA⟩ := h.ev.form
      obtain ⟨b, rfl⟩ := hA (by simp)
      clear hA hz
      obtain ⟨q0, q1, q2⟩ := h0.ev.at (i := 0) (by simp)
      rw [Nat.zero_mul] at q0 q1 q2
      simp only [List.getElem_cons_zero, Nat.zero_add] at q0 q1 q2
      have hr0 := ev_row w ⟨0, 0, 0⟩
      have hr1 := ev_row (w.alloc (.cells #[.int .i64 0, .int .i64 0, .int .i64 0] 84)) x
      have e1 : (w.alloc (.cells #[.int .i64 0, .int .i64 0, .int .i64 0] 84)).heap.size = w.heap.size + 1 := by simp
      rw [e1] at hr1
      have e2 : ((w.alloc (.cells #[.int .i64 0, .int .i64 0, .int .i64 0] 84)).alloc (.cells #[.int .i64 x.t, .int .i64 x.d, .int .i64 x.s] 84)).heap.size = w.heap.size + 2 := by simp
      have hr01 := (hr0.alloc (.cells #[.int .i64 x.t, .int .i64 x.d, .int .i64 x.s] 84)).alloc (.cells #[] 84)
      have hr11 := hr1.alloc (.cells #[] 84)
      have hF1 : Fr (fun k => w.heap.size ≤ k) w (((w.alloc (.cells #[.int .i64 0, .int .i64 0, .int .i64 0] 84)).alloc (.cells #[.int .i64 x.t, .int .i64 x.d, .int .i64 x.s] 84)).alloc (.cells #[] 84)) := (((Fr.refl _ w).alloc _).alloc _).alloc _
      have O1 := Ow.empty ((w.alloc (.cells #[.int .i64 0, .int .i64 0, .int .i64 0] 84)).alloc (.cells #[.int .i64 x.t, .int .i64 x.d, .int .i64 x.s] 84))
      rw [e2] at O1
      have hb : b < w.heap.size := h.ev.lt b rfl
      have hgl := h.st.lt
      have hgn : ¬ w.heap.size ≤ g := by omega
      have hev := h.ev
      have hlr : (x :: r).length - 1 = r.length := by simp
      have hdr : List.drop 1 (x :: r) = r := rfl
      have hx2 : ∀ o k : Nat, (0 < r.length → o = 3) → Sh w (.slice (some ⟨b, o, none⟩) r.length k) r := fun o k ho => by
        have := Sh.drop (o := o) hev 1 k (by simp) (fun e => ho (by simpa using e))
        rwa [hlr, hdr] at this
      have na : ∀ k, Value.ownBlock (.slice (some ⟨w.heap.size + 2, 0, none⟩) 0 0) = some k → w.heap.size ≤ k := fun k hk => by cases hk; show w.heap.size ≤ w.heap.size + 2; omega
      generalize hW : (((w.alloc (.cells #[.int .i64 0, .int .i64 0, .int .i64 0] 84)).alloc (.cells #[.int .i64 x.t, .int .i64 x.d, .int .i64 x.s] 84)).alloc (.cells #[] 84)) = W at hr01 hr11 hF1 O1
      have HW := Lib.hid hW
      clear hW
      obtain ⟨o3, c3, Ho3, hx3⟩ : ∃ o3 c3, Hid ((c = 1 → o3 = 0 ∧ c3 = 0) ∧ (¬ c = 1 → o3 = 3 ∧ c3 = c - 1)) ∧ Sh W (.slice (some ⟨b, o3, none⟩) r.length c3) r := by
        by_cases f5 : c = 1
        · exact ⟨0, 0, ⟨fun _ => ⟨rfl, rfl⟩, fun e => absurd f5 e⟩, (hx2 0 0 (by simp at hc; omega)).fr hF1 (fun k2 h2 => by cases h2; show ¬ w.heap.size ≤ b; omega)⟩
        · exact ⟨3, c - 1, ⟨fun e => absurd e f5, fun _ => ⟨rfl, rfl⟩⟩, (hx2 3 (c - 1) (fun _ => rfl)).fr hF1 (fun k2 h2 => by cases h2; show ¬ w.heap.size ≤ b; omega)⟩
      obtain ⟨v3, w4, r3, O4, F4, N4⟩ := run_append_ev 46 O1 hx3 (by simp at hl ⊢; omega)
      have hWs : W.heap.size = w.heap.size + 3 := by rw [← HW.out]; simp
      have n4 : ∀ k, v3.ownBlock = some k → w.heap.size < k := fun k hk => by
        rcases N4 with e | e
        · rw [e] at hk; cases hk; show w.heap.size < w.heap.size + 2; omega
        · rw [e] at hk; cases hk; omega
      have hF4 : Fr (fun k => w.heap.size ≤ k) w w4 := hF1.trans (F4.mono fun k e => na k e)
      have O4' : Ow w4 v3 r := by simpa using O4
      obtain ⟨A3, c4, rfl, q3, q4, q5, q6⟩ := O4'.form
      clear q3 q4 q5 q6 O4
      have k1 := hr11.of_block (F4.block _ hr11.lt (fun e => by have : w.heap.size + 2 = w.heap.size + 1 := Option.some.inj e; omega))
      have k0 := hr01.of_block (F4.block _ hr01.lt (fun e => by have : w.heap.size + 2 = w.heap.size := Option.some.inj e; omega))
      have m0 := k1.cell (i := 0) (by omega)
      have m1 := k1.cell (i := 1) (by omega)
      have m2 := k1.cell (i := 2) (by omega)
      have z0 := k0.frozen 0
      have z1 := k0.frozen 1
      have z2 := k0.frozen 2
      have y0 := k0.cell (i := 0) (by omega)
      have y1 := k0.cell (i := 1) (by omega)
      have y2 := k0.cell (i := 2) (by omega)
      simp only [three] at m0 m1 m2 y0 y1 y2
      have kg := cell_fr hF4 h.c0 hgn
      have kz : w4.frozen? ⟨g, 1, none⟩ = false := (h.st.of_block (hF4.block _ hgl hgn)).frozen 1
      have hne1 : ((r.length : Int) + 1 == 0) = false := beq_false_of_ne (by omega)
      have hne2 : ¬ ((r.length : Int) + 1 = 0) := by omega
      have gl1 : g < w.heap.size + 1 := by omega
      have gl2 : g < w.heap.size + 1 + 1 := by omega
      have gl3 : g < w.heap.size + 2 := by omega
      have g1 : ¬ g = w.heap.size := by omega
      have g2 : ¬ g = w.heap.size + 1 := by omega
      have g3 : ¬ w.heap.size = g := by omega
      have g4 : ¬ w.heap.size + 1 = g := by omega
      obtain ⟨hw5, hch5⟩ := ref_store h hF4 O4' (fun k hk => Nat.le_of_lt (n4 k hk))
      have R3 := Lib.hid r3
      rw [← HW.out] at R3
      clear r3
      by_cases f5 : c = 1
      · obtain ⟨rfl, rfl⟩ := Ho3.out.1 f5
        subst f5
        clear Ho3
        go_enter Tryz.func43, Tryz.ntmps43
        go_wp2_with (at_builtin; refine wpList_append_go rfl (.tmp 32) (.tmp 37) 46 46 rfl _ _ rfl rfl R3.out ?_)
        have hrow := three_set (k0.setOther (a := ⟨g, 1, none⟩) g3 (.slice A3 r.length c4)) x
        obtain ⟨hw9, hch9⟩ := box_end2 h hw5 hch5 n4 (.int .i64 x.t) (.int .i64 x.d) (.int .i64 x.s)
        generalize (((w4.setCell ⟨g, 1, none⟩ (.slice A3 r.length c4)).setCell ⟨w.heap.size, 0, none⟩ (.int .i64 x.t)).setCell ⟨w.heap.size, 1, none⟩ (.int .i64 x.d)).setCell ⟨w.heap.size, 2, none⟩ (.int .i64 x.s) = W9 at hrow hw9 hch9 ⊢
        have yy0 := hrow.cell (i := 0) (by omega)
        have yy1 := hrow.cell (i := 1) (by omega)
        have yy2 := hrow.cell (i := 2) (by omega)
        simp only [three] at yy0 yy1 yy2
        refine bodyPost_ret (v := .tuple #[.agg #[.int .i64 x.t, .int .i64 x.d, .int .i64 x.s], .bool true]) (by simp [results, Tryz.results43, go_sem, yy0, yy1, yy2]) rfl ⟨by rw [HV.out], .slice A3 r.length c4, ?_⟩
        rw [HL.out]
        exact ⟨hw9, hch9⟩
      · obtain ⟨rfl, rfl⟩ := Ho3.out.2 f5
        clear Ho3
        go_enter Tryz.func43, Tryz.ntmps43
        go_wp2_with (at_builtin; refine wpList_append_go rfl (.tmp 32) (.tmp 37) 46 46 rfl _ _ rfl rfl R3.out ?_)
        have hrow := three_set (k0.setOther (a := ⟨g, 1, none⟩) g3 (.slice A3 r.length c4)) x
        obtain ⟨hw9, hch9⟩ := box_end2 h hw5 hch5 n4 (.int .i64 x.t) (.int .i64 x.d) (.int .i64 x.s)
        generalize (((w4.setCell ⟨g, 1, none⟩ (.slice A3 r.length c4)).setCell ⟨w.heap.size, 0, none⟩ (.int .i64 x.t)).setCell ⟨w.heap.size, 1, none⟩ (.int .i64 x.d)).setCell ⟨w.heap.size, 2, none⟩ (.int .i64 x.s) = W9 at hrow hw9 hch9 ⊢
        have yy0 := hrow.cell (i := 0) (by omega)
        have yy1 := hrow.cell (i := 1) (by omega)
        have yy2 := hrow.cell (i := 2) (by omega)
        simp only [three] at yy0 yy1 yy2
        refine bodyPost_ret (v := .tuple #[.agg #[.int .i64 x.t, .int .i64 x.d, .int .i64 x.s], .bool true]) (by simp [results, Tryz.results43, go_sem, yy0, yy1, yy2]) rfl ⟨by rw [HV.out], .slice A3 r.length c4, ?_⟩
        rw [HL.out]
        exact ⟨hw9, hch9⟩

set_option maxRecDepth 100000 in
set_option maxHeartbeats 1000000 in
theorem same_any {x y : Value} {L : List Ev} (hx : Ow w x L) (hy : Ow w y L) (hl : L.length ≤ 1000000) :
    Calls Tryz.prog 38 #[x, y] w fun e w' => e = .returned (.bool true) ∧ ∃ n, w' = w.drewN n := by
  obtain ⟨A, c, rfl, hc, hcm, hz, hA⟩ := hx.form
  obtain ⟨B, c2, rfl, hc2, hcm2, hz2, hB⟩ := hy.form
  obtain ⟨n, HN⟩ : ∃ n, Hid (L.length = n) := ⟨_, rfl⟩
  have HA := Lib.hid hA
  have HB := Lib.hid hB
  clear hA hz hB hz2
  rw [HN.out] at hl hc hc2
  go_enter Tryz.func38, Tryz.ntmps38
  rw [HN.out]
  go_wp2
  go_loopw [5] (fun i wr => ∃ k r : Nat, k ≤ n ∧ i = .int .i64 k ∧ wr = w.drewN r) (fun i _ => n - (intOf i).toNat)
  case atStart => exact ⟨0, 0, by omega, rfl, rfl⟩
  case round =>
    obtain ⟨k, r, hk, rfl, rfl⟩ := hrel
    by_cases hlt : k < n
    · have hkL : k < L.length := by rw [HN.out]; exact hlt
      obtain ⟨b, rfl⟩ := HA.out (by omega)
      obtain ⟨b2, rfl⟩ := HB.out (by omega)
      obtain ⟨q0, q1, q2⟩ := hx.at hkL
      obtain ⟨p0, p1, p2⟩ := hy.at hkL
      have hlt2 : (k : Int) < (n : Int) := by omega
      obtain ⟨x, HX⟩ : ∃ x, Hid (L[k] = x) := ⟨_, Lib.hid rfl⟩
      rw [HX.out] at q0 q1 q2 p0 p1 p2
      clear HX hkL
      go_wp2_with fail
      go_quiet (fail)
      go_wp2
      go_roundw
      case rel => exact ⟨k + 1, _, by omega, by go_num, rfl⟩
      case measure => simp [intOf]; omega
    · go_wp2
      go_ret
      exact ⟨rfl, _, rfl⟩
end
end Go.Proofs.YtkfedihaldpgmaaGreat
