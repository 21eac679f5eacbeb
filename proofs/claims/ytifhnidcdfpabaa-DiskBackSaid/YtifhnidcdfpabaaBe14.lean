/-
  Chapter 14: the document's bus as far as a disk reaches: Set.
-/
import Derived.Test.YtifhnidcdfpabaaBd14
import Derived.Deep.RegionHeld3
namespace Go.Proofs.Ytifhnidcdfpabaa
open Go.RowKit
set_option linter.unusedVariables false
set_option linter.unusedSimpArgs false
section
variable {C : Nat → Value} {w w' : World} {m r y : Nat} {O : Nat → Prop} {p n : Nat} {u u2 : Value} {S S2 : DS}
set_option maxRecDepth 100000 in
set_option maxHeartbeats 1000000 in
theorem rdisk2_yes (x now : Int) (h : Bu C w m r y O p n u S) (hz : S.bz = false) (ha : 0 ≤ S.a ∧ S.a ≤ 1000000) (n0 : 0 ≤ now) (n1 : now ≤ 4611686018427387000) :
    Calls Try.prog 49 #[.pointer (some ⟨m, 0, none⟩), .int .u32 2, .int .u32 x, .int .i64 now] w (RetU (.bool true) C w m r y O p n u (startD x now S)) := by
  have k6 := h.b21
  have f6 := h.wb.st.frozen 21
  have f5 := h.wb.st.frozen 20
  have k5 := h.b20
  obtain ⟨s, hs⟩ : ∃ s, sw S.bz S.dn S.er = s := ⟨_, rfl⟩
  have e1 := sw_is0 S.bz S.dn S.er
  rw [hs] at e1 k6
  rw [hz] at e1
  have e2 : (bits .and .u32 s 1 == 0) = true := e1
  clear e1
  obtain ⟨s2, hs2⟩ : ∃ s2, Hid (bits .or .u32 s 1 = s2) := ⟨_, Lib.hid rfl⟩
  have H0 := h.setN x
  have H1 : Hid (Bu C ((w.setCell ⟨m, 20, none⟩ (.int .u32 x)).setCell ⟨m, 21, none⟩ (.int .u32 s2)) m r y O p n u { S with c := x, bz := true }) := H0.setS s2 true S.dn S.er (by rw [← hs2.out, ← hs]; exact sw_or1 _ _ _)
  have C1 : CD m m O u u w ((w.setCell ⟨m, 20, none⟩ (.int .u32 x)).setCell ⟨m, 21, none⟩ (.int .u32 s2)) := (CD.set m m O u w 20 (.int .u32 x)).trans (CD.set m m O u _ 21 (.int .u32 s2))
  clear hs hz H0
  obtain ⟨T, hT0⟩ : ∃ T, now + 32 = T := ⟨_, rfl⟩
  have hok : okB 5 T = true := by unfold okB; apply decide_eq_true; omega
  have HA : Hid (startD x now S = { S with c := x, bz := true, q := some (T, S.a), a := S.a + 1 }) := by show _ = _; unfold startD; rw [hT0]
  have HT := Lib.hid hT0
  clear hT0
  go_enter Try.func49, Try.ntmps49
  go_wp2_with fail
  rw [hs2.out, HT.out]
  generalize (w.setCell ⟨m, 20, none⟩ (.int .u32 x)).setCell ⟨m, 21, none⟩ (.int .u32 s2) = w1 at H1 C1 ⊢
  have h1 := H1.out
  with_reducible refine (rarm_T (W := w1) T (show Wb (cD C r y n { S with c := x, bz := true }) w1 m u (qL 5 S.q) S.a from h1.wb) hok ha).mono ?_
  rintro e w4 ⟨rfl, v4, hw4, hch4⟩
  have h4 := h1.wheel hw4 hch4
  go_wp2
  go_ret
  exact ⟨rfl, v4, by rw [HA.out]; exact h4, C1.trans (CD.of_ch hch4)⟩
set_option maxRecDepth 100000 in
set_option maxHeartbeats 1000000 in
theorem rdisk_any (k : Nat) (z x now : Int) (h : Bu C w m r y O p n u S) (hk : k ≤ 6) (hz : z = (k : Int)) (x0 : 0 ≤ x) (x1 : x < 4294967296) (ha : 0 ≤ S.a ∧ S.a ≤ 1000000) (n0 : 0 ≤ now) (n1 : now ≤ 4611686018427387000) :
    Calls Try.prog 49 #[.pointer (some ⟨m, 0, none⟩), .int .u32 z, .int .u32 x, .int .i64 now] w (RetU (.bool (decide (k < 4))) C w m r y O p n u (wrD k x now S)) := by
  have k18 := h.b18
  have k19 := h.b19
  have k20 := h.b20
  have k21 := h.b21
  have f18 := h.wb.st.frozen 18
  have f19 := h.wb.st.frozen 19
  have f20 := h.wb.st.frozen 20
  have f21 := h.wb.st.frozen 21
  match k with
  | 0 =>
    obtain rfl : z = 0 := by omega
    clear hz hk
    go_enter Try.func49, Try.ntmps49
    go_wp2
    go_ret
    exact ⟨rfl, u, h.setZ x, CD.set m m O u w 18 _⟩
  | 1 =>
    obtain rfl : z = 1 := by omega
    clear hz hk
    go_enter Try.func49, Try.ntmps49
    go_wp2
    go_ret
    exact ⟨rfl, u, h.setT x, CD.set m m O u w 19 _⟩
  | 2 =>
    obtain rfl : z = 2 := by omega
    cases hb : S.bz
    · have HA : wrD 2 x now S = startD x now S := by show ctlD x now S = _; unfold ctlD; rw [hb]
      rw [HA]
      exact rdisk2_yes x now h hb ha n0 n1
    · have HA : Hid (wrD 2 x now S = S) := by show ctlD x now S = _; unfold ctlD; rw [hb]
      obtain ⟨s, hs⟩ : ∃ s, sw S.bz S.dn S.er = s := ⟨_, rfl⟩
      have e1 := sw_is0 S.bz S.dn S.er
      rw [hs] at e1 k21
      rw [hb] at e1
      have e2 : (bits .and .u32 s 1 == 0) = false := e1
      clear e1 hs hb hz hk
      go_enter Try.func49, Try.ntmps49
      go_wp2
      go_ret
      exact ⟨rfl, u, by rw [HA.out]; exact h, CD.refl _ _ _ _ _⟩
  | 3 =>
    obtain rfl : z = 3 := by omega
    clear hz hk
    obtain ⟨s, hs⟩ : ∃ s, sw S.bz S.dn S.er = s := ⟨_, rfl⟩
    rw [hs] at k21
    obtain ⟨b, hy⟩ : ∃ b, Hid (bits .and .u32 x 6 = b) := ⟨_, Lib.hid rfl⟩
    obtain ⟨s2, hs2⟩ : ∃ s2, Hid (bits .andNot .u32 s b = s2) := ⟨_, Lib.hid rfl⟩
    have H1 : Hid (Bu C (w.setCell ⟨m, 21, none⟩ (.int .u32 s2)) m r y O p n u (clrD x S)) := h.setS s2 S.bz (S.dn && !decide (x / 2 % 2 = 1)) (S.er && !decide (x / 4 % 2 = 1)) (by rw [← hs2.out, ← hy.out, ← hs, v_and6 x x0 x1]; exact sw_clr _ _ _ _ _)
    clear hs
    go_enter Try.func49, Try.ntmps49
    go_wp2
    rw [hy.out, hs2.out]
    go_ret
    exact ⟨rfl, u, H1.out, CD.set m m O u w 21 _⟩
  | 4 =>
    obtain rfl : z = 4 := by omega
    clear hz hk
    go_enter Try.func49, Try.ntmps49
    go_wp2
    go_ret
    exact ⟨rfl, u, h, CD.refl _ _ _ _ _⟩
  | 5 =>
    obtain rfl : z = 5 := by omega
    clear hz hk
    go_enter Try.func49, Try.ntmps49
    go_wp2
    go_ret
    exact ⟨rfl, u, h, CD.refl _ _ _ _ _⟩
  | 6 =>
    obtain rfl : z = 6 := by omega
    clear hz hk
    go_enter Try.func49, Try.ntmps49
    go_wp2
    go_ret
    exact ⟨rfl, u, h, CD.refl _ _ _ _ _⟩
  | k + 7 => exact absurd hk (by omega)
set_option maxRecDepth 100000 in
set_option maxHeartbeats 1000000 in
theorem rset_any (k : Nat) (z x now : Int) (h : Bu C w m r y O p n u S) (hk : k ≤ 6) (hz : z = (k : Int) * 4) (x0 : 0 ≤ x) (x1 : x < 4294967296) (ha : 0 ≤ S.a ∧ S.a ≤ 1000000) (n0 : 0 ≤ now) (n1 : now ≤ 4611686018427387000) :
    Calls Try.prog 28 #[.pointer (some ⟨m, 0, none⟩), .int .i64 5, .int .u32 z, .int .u32 x, .int .i64 now] w (RetU (.bool (decide (k < 4))) C w m r y O p n u (wrD k x now S)) := by
  have hz2 : k = 0 ∧ z = 0 ∨ k = 1 ∧ z = 4 ∨ k = 2 ∧ z = 8 ∨ k = 3 ∧ z = 12 ∨ k = 4 ∧ z = 16 ∨ k = 5 ∧ z = 20 ∨ k = 6 ∧ z = 24 := by omega
  clear hz
  rcases hz2 with ⟨hk5, rfl⟩ | ⟨hk5, rfl⟩ | ⟨hk5, rfl⟩ | ⟨hk5, rfl⟩ | ⟨hk5, rfl⟩ | ⟨hk5, rfl⟩ | ⟨hk5, rfl⟩
  all_goals
    have H := Lib.hid hk5
    clear hk5
    go_enter Try.func28, Try.ntmps28
    go_wp2_with fail
    with_reducible refine (rdisk_any k _ x now h hk (by have := H.out; omega) x0 x1 ha n0 n1).mono ?_
    rintro e w1 ⟨rfl, u2, h2, c2⟩
    go_wp2
    go_ret
    exact ⟨rfl, u2, h2, c2⟩
end
end Go.Proofs.Ytifhnidcdfpabaa
