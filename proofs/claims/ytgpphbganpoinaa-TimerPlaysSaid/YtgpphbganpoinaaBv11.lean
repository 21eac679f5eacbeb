/-
  Chapter 11: the document's bus: Set, B1, New, as far as a timer reaches.
-/
import Derived.Test.YtgpphbganpoinaaBu11
namespace Go.Proofs.Ytgpphbganpoinaa
open Go.RowKit
set_option linter.unusedVariables false
set_option linter.unusedSimpArgs false
section
variable {C : Nat → Value} {o : Nat} {w w' : World} {m : Nat} {d : Int} {u u2 : Value} {S : TS}
set_option maxHeartbeats 1000000 in
theorem rtimer_any (k : Nat) (z x now : Int) (h : Bu C o w m d u S) (ho : Dv d o) (hk : k ≤ 4) (hz : z = (k : Int)) (x0 : 0 ≤ x) (x1 : x < 4294967296) (ha : 0 ≤ S.a ∧ S.a ≤ 1000000) (n0 : 0 ≤ now) (n1 : now ≤ 4611686018427387904) (p0 : 0 ≤ S.p) (p1 : S.p < 4294967296) :
    Calls Try.prog 35 #[.pointer (some ⟨m, 0, none⟩), .int .i64 d, .int .u32 z, .int .u32 x, .int .i64 now] w (RetU (.bool (decide (k < 3))) C o w m d u (wrT k x now S)) := by
  subst hz
  have hb1 := ct_and1 x x0 x1
  have hb3 := ct_and3 x x0 x1
  have hd0 : 0 ≤ d := by rcases ho with ⟨rfl, _⟩ | ⟨rfl, _⟩ <;> omega
  have hd1 : d < 16 := by rcases ho with ⟨rfl, _⟩ | ⟨rfl, _⟩ <;> omega
  have b0 := h.b0 ho
  have b1 := h.b1 ho
  have b2 := h.b2 ho
  have f0 := h.st.frozen o
  have f1 := h.st.frozen (o + 1)
  have f2 := h.st.frozen (o + 2)
  have : k = 0 ∨ k = 1 ∨ k = 2 ∨ k = 3 ∨ k = 4 := by omega
  rcases this with rfl | rfl | rfl | rfl | rfl
  · have h1 := h.setC ho (decide (x % 2 = 1)) (decide (x / 2 % 2 = 1))
    have C1 : Ch m u u w (w.setCell ⟨m, o, none⟩ (.int .u32 (cw (decide (x % 2 = 1)) (decide (x / 2 % 2 = 1))))) := Ch.setI m u w o _
    rw [← hb3] at h1 C1
    have y1 : (w.setCell ⟨m, o, none⟩ (.int .u32 (bits .and .u32 x 3))).cell? ⟨m, o + 1, none⟩ = some (.int .u32 S.p) := h1.b1 ho
    have HW := Lib.hid (due_wrap now S.p n0 n1 p0 p1)
    have hok := due_ok d now S.p hd0 hd1 n0 p0
    obtain ⟨T, HT⟩ : ∃ T, Hid (due now S.p = T) := ⟨_, rfl⟩
    rw [HT.out] at hok HW
    obtain ⟨p, HP⟩ : ∃ p, Hid (S.p = p) := ⟨_, rfl⟩
    rw [HP.out] at y1 HW
    obtain ⟨X, HX⟩ : ∃ X, Hid ((if IntKind.i64.wrap p < 1 then 1 else IntKind.i64.wrap p) = X) := ⟨_, rfl⟩
    rw [HX.out] at HW
    clear n0 n1 p0 p1 b1 b2 f1 f2
    cases hr : decide (x % 2 = 1)
    · have hb : bits .and .u32 x 1 = 0 := by rw [hb1, hr]; rfl
      have H0 : Hid (wrT 0 x now S = { S with r := false, ag := decide (x / 2 % 2 = 1), q := none }) := by
        show stT now (ctT x S) = _
        unfold stT
        rw [show (ctT x S).r = false from hr, if_neg (by decide)]
        unfold ctT
        rw [hr]
      rw [hr] at h1
      clear hb1 hb3 x0 x1 HW hok HT HP HX hr y1
      rcases ho with ⟨rfl, rfl⟩ | ⟨rfl, rfl⟩
      all_goals
        go_enter Try.func35, Try.ntmps35
        go_wp2_with fail
        with_reducible refine (rcancel_T h1).mono ?_
        rintro e w1 ⟨rfl, u2, h2, c2⟩
        go_wp2
        go_ret
        exact ⟨rfl, u2, by rw [H0.out]; exact h2, C1.trans c2⟩
    · have hb : bits .and .u32 x 1 = 1 := by rw [hb1, hr]; rfl
      have H0 : Hid (wrT 0 x now S = { S with r := true, ag := decide (x / 2 % 2 = 1), q := some (T, S.a), a := S.a + 1 }) := by
        show stT now (ctT x S) = _
        unfold stT
        rw [show (ctT x S).r = true from hr, if_pos rfl]
        unfold arT ctT
        rw [hr, HT.out]
      rw [hr] at h1
      have hd1' : Bu C o (w.setCell ⟨m, o, none⟩ (.int .u32 (bits .and .u32 x 3))).drew m d u { S with r := true, ag := decide (x / 2 % 2 = 1) } := h1.drewN 1
      have z1 : (w.setCell ⟨m, o, none⟩ (.int .u32 (bits .and .u32 x 3))).drew.cell? ⟨m, o + 1, none⟩ = some (.int .u32 p) := y1
      clear hb1 hb3 x0 x1 hr y1
      rcases ho with ⟨rfl, rfl⟩ | ⟨rfl, rfl⟩
      · go_enter Try.func35, Try.ntmps35
        go_wp2_with fail
        generalize w.setCell ⟨m, 3, none⟩ (.int .u32 (bits .and .u32 x 3)) = W1 at h1 hd1' z1 C1 ⊢
        go_region_held3 (fun w' => w'.cell? ⟨m, 4, none⟩ = some (.int .u32 p)) (first | with_reducible exact z1 | with_reducible exact z2)
          (first
            | (go_at_call 32; rw [HX.out, HW.out]; (with_reducible refine (rarm_T (W := W1.drew) T hd1' hok ha).mono ?_); rintro e w4 ⟨rfl, v4, hw4, hch4⟩; have z2 : w4.cell? ⟨m, 4, none⟩ = some (.int .u32 p) := by rw [← HP.out]; exact hw4.cC 4 (by omega) (by omega) (by omega)))
        go_wp2
        go_ret
        exact ⟨rfl, v4, by rw [H0.out]; exact hw4, C1.trans ((⟨(Fr.refl (Own m u) W1).drewN 1, fun _ h => .inl h⟩ : Ch m u u W1 W1.drew).trans hch4)⟩
      · go_enter Try.func35, Try.ntmps35
        go_wp2_with fail
        generalize w.setCell ⟨m, 6, none⟩ (.int .u32 (bits .and .u32 x 3)) = W1 at h1 hd1' z1 C1 ⊢
        go_region_held3 (fun w' => w'.cell? ⟨m, 7, none⟩ = some (.int .u32 p)) (first | with_reducible exact z1 | with_reducible exact z2)
          (first
            | (go_at_call 32; rw [HX.out, HW.out]; (with_reducible refine (rarm_T (W := W1.drew) T hd1' hok ha).mono ?_); rintro e w4 ⟨rfl, v4, hw4, hch4⟩; have z2 : w4.cell? ⟨m, 7, none⟩ = some (.int .u32 p) := by rw [← HP.out]; exact hw4.cC 7 (by omega) (by omega) (by omega)))
        go_wp2
        go_ret
        exact ⟨rfl, v4, by rw [H0.out]; exact hw4, C1.trans ((⟨(Fr.refl (Own m u) W1).drewN 1, fun _ h => .inl h⟩ : Ch m u u W1 W1.drew).trans hch4)⟩
  · rcases ho with ⟨rfl, rfl⟩ | ⟨rfl, rfl⟩
    all_goals
      go_enter Try.func35, Try.ntmps35
      go_wp2
      go_ret
    · exact ⟨rfl, u, h.setP (.inl ⟨rfl, rfl⟩) x, Ch.setI m u w 4 _⟩
    · exact ⟨rfl, u, h.setP (.inr ⟨rfl, rfl⟩) x, Ch.setI m u w 7 _⟩
  · cases hr : decide (x % 2 = 1)
    · have hb : bits .and .u32 x 1 = 0 := by rw [hb1, hr]; rfl
      have H0 : Hid (wrT 2 x now S = S) := by show fgT x S = _; unfold fgT; rw [if_neg (of_decide_eq_false hr)]
      clear hb1 hb3 x0 x1 hr
      rcases ho with ⟨rfl, rfl⟩ | ⟨rfl, rfl⟩
      all_goals
        go_enter Try.func35, Try.ntmps35
        go_wp2
        go_ret
        exact ⟨rfl, u, by rw [H0.out]; exact h, Ch.refl m u w⟩
    · have hb : bits .and .u32 x 1 = 1 := by rw [hb1, hr]; rfl
      have H0 : Hid (wrT 2 x now S = { S with s := false }) := by show fgT x S = _; unfold fgT; rw [if_pos (of_decide_eq_true hr)]
      clear hb1 hb3 x0 x1 hr
      have h1 := h.setS ho false
      rcases ho with ⟨rfl, rfl⟩ | ⟨rfl, rfl⟩
      all_goals
        go_enter Try.func35, Try.ntmps35
        go_wp2
        go_ret
        exact ⟨rfl, u, by rw [H0.out]; exact h1, Ch.setI m u w _ _⟩
  all_goals
    clear hb1 hb3 x0 x1
    rcases ho with ⟨rfl, rfl⟩ | ⟨rfl, rfl⟩
    all_goals
      go_enter Try.func35, Try.ntmps35
      go_wp2
      go_ret
      exact ⟨rfl, u, h, Ch.refl m u w⟩
set_option maxHeartbeats 1000000 in
theorem rset_any (k : Nat) (z x now : Int) (h : Bu C o w m d u S) (ho : Dv d o) (hk : k ≤ 4) (hz : z = (k : Int) * 4) (x0 : 0 ≤ x) (x1 : x < 4294967296) (ha : 0 ≤ S.a ∧ S.a ≤ 1000000) (n0 : 0 ≤ now) (n1 : now ≤ 4611686018427387904) (p0 : 0 ≤ S.p) (p1 : S.p < 4294967296) :
    Calls Try.prog 21 #[.pointer (some ⟨m, 0, none⟩), .int .i64 d, .int .u32 z, .int .u32 x, .int .i64 now] w (RetU (.bool (decide (k < 3))) C o w m d u (wrT k x now S)) := by
  have hd : d = 1 ∨ d = 2 := by rcases ho with ⟨rfl, _⟩ | ⟨rfl, _⟩ <;> omega
  have hk5 : z = 0 ∧ k = 0 ∨ z = 4 ∧ k = 1 ∨ z = 8 ∧ k = 2 ∨ z = 12 ∧ k = 3 ∨ z = 16 ∧ k = 4 := by omega
  clear hz
  rcases hd with rfl | rfl
  all_goals
    rcases hk5 with ⟨rfl, hk5⟩ | ⟨rfl, hk5⟩ | ⟨rfl, hk5⟩ | ⟨rfl, hk5⟩ | ⟨rfl, hk5⟩
    all_goals
      have H := Lib.hid hk5
      clear hk5
      go_enter Try.func21, Try.ntmps21
      go_wp2_with fail
      with_reducible refine (rtimer_any k _ x now h ho hk (by have := H.out; omega) x0 x1 ha n0 n1 p0 p1).mono ?_
      rintro e w1 ⟨rfl, u2, h2, c2⟩
      go_wp2
      go_ret
      exact ⟨rfl, u2, h2, c2⟩
end
end Go.Proofs.Ytgpphbganpoinaa
