/-
  Chapter 15: the document's bus: what is written to a timer's words, in the one state.
-/
import Derived.Test.YtkfedihaldpgmaaGreatBv15
namespace Go.Proofs.YtkfedihaldpgmaaGreat
open Go.RowKit
set_option linter.unusedVariables false
set_option linter.unusedSimpArgs false
def due (t p : Int) : Int := t + (if p = 0 then 1 else p)
theorem ct_and3 (v : Int) (h0 : 0 ≤ v) (h1 : v < 4294967296) : bits .and .u32 v 3 = cwB (decide (v % 2 = 1)) (decide (v / 2 % 2 = 1)) := by
  have e : bits .and .u32 v 3 = v % 4 := by
    have := Go.u32_and_nat v.toNat 3 (by omega) (by omega)
    rw [show ((v.toNat : Nat) : Int) = v by omega] at this
    rw [show ((3 : Nat) : Int) = 3 from rfl] at this
    rw [this, show (3 : Nat) = 2 ^ 2 - 1 from rfl, Nat.and_two_pow_sub_one_eq_mod]
    omega
  rw [e]
  by_cases a1 : v % 2 = 1 <;> by_cases a2 : v / 2 % 2 = 1 <;> simp only [a1, a2, decide_true, decide_false, cwB] <;> omega
theorem ct_and1 (v : Int) (h0 : 0 ≤ v) (h1 : v < 4294967296) : bits .and .u32 v 1 = ibB (decide (v % 2 = 1)) := by
  have e : bits .and .u32 v 1 = v % 2 := by
    have := Go.u32_and_nat v.toNat 1 (by omega) (by omega)
    rw [show ((v.toNat : Nat) : Int) = v by omega] at this
    rw [show ((1 : Nat) : Int) = 1 from rfl] at this
    rw [this, show (1 : Nat) = 2 ^ 1 - 1 from rfl, Nat.and_two_pow_sub_one_eq_mod]
    omega
  rw [e]
  by_cases a1 : v % 2 = 1 <;> simp only [a1, decide_true, decide_false, ibB] <;> omega
theorem due_wrap (now p : Int) (n0 : 0 ≤ now) (n1 : now ≤ 4611686018427387904) (p0 : 0 ≤ p) (p1 : p < 4294967296) : IntKind.i64.wrap (now + if IntKind.i64.wrap p < 1 then 1 else IntKind.i64.wrap p) = due now p := by
  have h1 : IntKind.i64.wrap p = p := by rw [IntKind.wrap_i64]; omega
  rw [h1]
  unfold due
  by_cases hp : p = 0
  · subst hp
    rw [if_pos (by omega), if_pos rfl, IntKind.wrap_i64]; omega
  · rw [if_neg (by omega), if_neg hp, IntKind.wrap_i64]; omega
theorem due_ok (d now p : Int) (d0 : 0 ≤ d) (d1 : d < 16) (n0 : 0 ≤ now) (p0 : 0 ≤ p) : okB d (due now p) = true := by unfold okB due; apply decide_eq_true; split <;> omega
theorem rcancel_S {W : World} {Q : Nat → Value} {m : Nat} {u : Value} {L : List Ev} {a : Int} (d : Int) (hw : Wb Q W m u L a) (hl : L.length ≤ 990000) :
    Calls Tryz.prog 82 #[.pointer (some ⟨m, 1, none⟩), .int .i64 d] W (RetX Q (.bool (cancB d L)) W m u (delF d L) a) := rcancel_any d hw (by omega)
def stT0 (now : Int) (S : BS) : BS := if S.r0 then armS 1 (due now S.p0) S else { S with L := delF 1 S.L }
def ctT0 (v : Int) (S : BS) : BS := { S with r0 := decide (v % 2 = 1), g0 := decide (v / 2 % 2 = 1) }
def fgT0 (v : Int) (S : BS) : BS := { S with s0 := if v % 2 = 1 then false else S.s0 }
def wrT0 (k : Nat) (v now : Int) (S : BS) : BS := match k with
  | 0 => stT0 now (ctT0 v S)
  | 1 => { S with p0 := v }
  | 2 => fgT0 v S
  | _ => S
section
variable {w w' : World} {m r y : Nat} {O : Nat → Prop} {p n : Nat} {V : SV} {S : BS}
set_option maxRecDepth 100000 in
set_option maxHeartbeats 1000000 in
theorem btimer0_any (k : Nat) (z x now : Int) (h : Bx w m r y O p n V S) (hk : k ≤ 15) (hz : z = (k : Int)) (x0 : 0 ≤ x) (x1 : x < 4294967296) (hl : S.L.length ≤ 990000) (ha : 0 ≤ S.a ∧ S.a ≤ 1000000) (p0 : 0 ≤ S.p0) (p1 : S.p0 < 4294967296) (n0 : 0 ≤ now) (n1 : now ≤ 4611686018427387000) :
    Calls Tryz.prog 68 #[.pointer (some ⟨m, 0, none⟩), .int .i64 1, .int .u32 z, .int .u32 x, .int .i64 now] w (RetN (.bool (decide (k < 3))) w m r y O p n V (wrT0 k x now S)) := by
  have hb1 := ct_and1 x x0 x1
  have hb3 := ct_and3 x x0 x1
  have b0 := h.b3
  have b1 := h.b4
  have b2 := h.b5
  have f0 := h.wb.st.frozen 3
  have f1 := h.wb.st.frozen 4
  have f2 := h.wb.st.frozen 5
  match k with
  | 0 =>
    obtain rfl : z = 0 := by omega
    clear hz hk
    have h1 := h.setC0 (bits .and .u32 x 3) (decide (x % 2 = 1)) (decide (x / 2 % 2 = 1)) hb3
    have C1 : CB m O V V w (w.setCell ⟨m, 3, none⟩ (.int .u32 (bits .and .u32 x 3))) := CB.set m O V w 3 _
    have y1 : (w.setCell ⟨m, 3, none⟩ (.int .u32 (bits .and .u32 x 3))).cell? ⟨m, 4, none⟩ = some (.int .u32 S.p0) := h1.b4
    have HW := Lib.hid (due_wrap now S.p0 n0 (by omega) p0 p1)
    have hok := due_ok 1 now S.p0 (by omega) (by omega) n0 p0
    obtain ⟨T, HT⟩ : ∃ T, Hid (due now S.p0 = T) := ⟨_, rfl⟩
    rw [HT.out] at hok HW
    obtain ⟨pp, HP⟩ : ∃ pp, Hid (S.p0 = pp) := ⟨_, rfl⟩
    rw [HP.out] at y1 HW
    obtain ⟨X, HX⟩ : ∃ X, Hid ((if IntKind.i64.wrap pp < 1 then 1 else IntKind.i64.wrap pp) = X) := ⟨_, rfl⟩
    rw [HX.out] at HW
    clear n0 n1 p0 p1 b1 b2 f1 f2
    cases hr : decide (x % 2 = 1)
    · have hb : bits .and .u32 x 1 = 0 := by rw [hb1, hr]; rfl
      have H0 : Hid (wrT0 0 x now S = { S with r0 := false, g0 := decide (x / 2 % 2 = 1), L := delF 1 S.L }) := by
        show stT0 now (ctT0 x S) = _
        unfold stT0
        rw [show (ctT0 x S).r0 = false from hr, if_neg (by decide)]
        unfold ctT0
        rw [hr]
      rw [hr] at h1
      clear hb1 hb3 x0 x1 HW hok HT HP HX hr y1
      go_enter Tryz.func68, Tryz.ntmps68
      go_wp2_with fail
      with_reducible refine (rcancel_S 1 h1.wb hl).mono ?_
      rintro e w1 ⟨rfl, u2, hw2, hch⟩
      have h2 := h1.wheel hw2 hch
      go_wp2
      go_ret
      exact ⟨rfl, _, by rw [H0.out]; exact h2, C1.trans (CB.of_ch hch)⟩
    · have hb : bits .and .u32 x 1 = 1 := by rw [hb1, hr]; rfl
      have H0 : Hid (wrT0 0 x now S = armS 1 T { S with r0 := true, g0 := decide (x / 2 % 2 = 1) }) := by
        show stT0 now (ctT0 x S) = _
        unfold stT0
        rw [show (ctT0 x S).r0 = true from hr, if_pos rfl]
        unfold ctT0
        rw [hr, HT.out]
      rw [hr] at h1
      have hd1 : Bx (w.setCell ⟨m, 3, none⟩ (.int .u32 (bits .and .u32 x 3))).drew m r y O p n V { S with r0 := true, g0 := decide (x / 2 % 2 = 1) } := h1.drewN 1
      have z1 : (w.setCell ⟨m, 3, none⟩ (.int .u32 (bits .and .u32 x 3))).drew.cell? ⟨m, 4, none⟩ = some (.int .u32 pp) := y1
      clear hb1 hb3 x0 x1 hr y1
      go_enter Tryz.func68, Tryz.ntmps68
      go_wp2_with fail
      generalize w.setCell ⟨m, 3, none⟩ (.int .u32 (bits .and .u32 x 3)) = W1 at h1 hd1 z1 C1 ⊢
      go_region_held3 (fun w' => w'.cell? ⟨m, 4, none⟩ = some (.int .u32 pp)) (first | with_reducible exact z1 | with_reducible exact z2)
        (first
          | (go_at_call 78; rw [HX.out, HW.out]; (with_reducible refine (rarm_S (W := W1.drew) 1 T hd1.wb hok hl ha).mono ?_); rintro e w4 ⟨rfl, v4, hw4, hch4⟩; have h4 := hd1.wheel hw4 hch4; have z2 : w4.cell? ⟨m, 4, none⟩ = some (.int .u32 pp) := by rw [← HP.out]; exact h4.b4))
      go_wp2
      go_ret
      exact ⟨rfl, _, by rw [H0.out]; exact h4, (C1.trans (CB.drewN m O V W1 1)).trans (CB.of_ch hch4)⟩
  | 1 =>
    obtain rfl : z = 1 := by omega
    clear hz hk hb1 hb3
    go_enter Tryz.func68, Tryz.ntmps68
    go_wp2
    go_ret
    exact ⟨rfl, V, h.setP0 x, CB.set m O V w 4 _⟩
  | 2 =>
    obtain rfl : z = 2 := by omega
    clear hz hk
    cases hr : decide (x % 2 = 1)
    · have hb : bits .and .u32 x 1 = 0 := by rw [hb1, hr]; rfl
      have H0 : Hid (wrT0 2 x now S = S) := by show fgT0 x S = _; unfold fgT0; rw [if_neg (of_decide_eq_false hr)]
      clear hb1 hb3 x0 x1 hr
      go_enter Tryz.func68, Tryz.ntmps68
      go_wp2
      go_ret
      exact ⟨rfl, V, by rw [H0.out]; exact h, CB.refl _ _ _ _⟩
    · have hb : bits .and .u32 x 1 = 1 := by rw [hb1, hr]; rfl
      have H0 : Hid (wrT0 2 x now S = { S with s0 := false }) := by show fgT0 x S = _; unfold fgT0; rw [if_pos (of_decide_eq_true hr)]
      clear hb1 hb3 x0 x1 hr
      have h1 := h.setS0 0 false rfl
      go_enter Tryz.func68, Tryz.ntmps68
      go_wp2
      go_ret
      exact ⟨rfl, V, by rw [H0.out]; exact h1, CB.set m O V w 5 _⟩
  | k + 3 =>
    have hz4 : 3 ≤ z := by omega
    have HZ : Hid (decide (k + 3 < 3) = false) := Lib.hid (decide_eq_false (by omega))
    have z0 : (z == 0) = false := beq_false_of_ne (by omega)
    have z1 : (z == 1) = false := beq_false_of_ne (by omega)
    have z2 : (z == 2) = false := beq_false_of_ne (by omega)
    have z3 : ¬ z < 3 := by omega
    clear hz hk hb1 hb3
    go_enter Tryz.func68, Tryz.ntmps68
    go_wp2
    go_ret
    exact ⟨by rw [HZ.out]; rfl, V, h, CB.refl _ _ _ _⟩
end
def stT1 (now : Int) (S : BS) : BS := if S.r1 then armS 2 (due now S.p1) S else { S with L := delF 2 S.L }
def ctT1 (v : Int) (S : BS) : BS := { S with r1 := decide (v % 2 = 1), g1 := decide (v / 2 % 2 = 1) }
def fgT1 (v : Int) (S : BS) : BS := { S with s1 := if v % 2 = 1 then false else S.s1 }
def wrT1 (k : Nat) (v now : Int) (S : BS) : BS := match k with
  | 0 => stT1 now (ctT1 v S)
  | 1 => { S with p1 := v }
  | 2 => fgT1 v S
  | _ => S
section
variable {w w' : World} {m r y : Nat} {O : Nat → Prop} {p n : Nat} {V : SV} {S : BS}
set_option maxRecDepth 100000 in
set_option maxHeartbeats 1000000 in
theorem btimer1_any (k : Nat) (z x now : Int) (h : Bx w m r y O p n V S) (hk : k ≤ 15) (hz : z = (k : Int)) (x0 : 0 ≤ x) (x1 : x < 4294967296) (hl : S.L.length ≤ 990000) (ha : 0 ≤ S.a ∧ S.a ≤ 1000000) (p0 : 0 ≤ S.p1) (p1 : S.p1 < 4294967296) (n0 : 0 ≤ now) (n1 : now ≤ 4611686018427387000) :
    Calls Tryz.prog 68 #[.pointer (some ⟨m, 0, none⟩), .int .i64 2, .int .u32 z, .int .u32 x, .int .i64 now] w (RetN (.bool (decide (k < 3))) w m r y O p n V (wrT1 k x now S)) := by
  have hb1 := ct_and1 x x0 x1
  have hb3 := ct_and3 x x0 x1
  have b0 := h.b6
  have b1 := h.b7
  have b2 := h.b8
  have f0 := h.wb.st.frozen 6
  have f1 := h.wb.st.frozen 7
  have f2 := h.wb.st.frozen 8
  match k with
  | 0 =>
    obtain rfl : z = 0 := by omega
    clear hz hk
    have h1 := h.setC1 (bits .and .u32 x 3) (decide (x % 2 = 1)) (decide (x / 2 % 2 = 1)) hb3
    have C1 : CB m O V V w (w.setCell ⟨m, 6, none⟩ (.int .u32 (bits .and .u32 x 3))) := CB.set m O V w 6 _
    have y1 : (w.setCell ⟨m, 6, none⟩ (.int .u32 (bits .and .u32 x 3))).cell? ⟨m, 7, none⟩ = some (.int .u32 S.p1) := h1.b7
    have HW := Lib.hid (due_wrap now S.p1 n0 (by omega) p0 p1)
    have hok := due_ok 2 now S.p1 (by omega) (by omega) n0 p0
    obtain ⟨T, HT⟩ : ∃ T, Hid (due now S.p1 = T) := ⟨_, rfl⟩
    rw [HT.out] at hok HW
    obtain ⟨pp, HP⟩ : ∃ pp, Hid (S.p1 = pp) := ⟨_, rfl⟩
    rw [HP.out] at y1 HW
    obtain ⟨X, HX⟩ : ∃ X, Hid ((if IntKind.i64.wrap pp < 1 then 1 else IntKind.i64.wrap pp) = X) := ⟨_, rfl⟩
    rw [HX.out] at HW
    clear n0 n1 p0 p1 b1 b2 f1 f2
    cases hr : decide (x % 2 = 1)
    · have hb : bits .and .u32 x 1 = 0 := by rw [hb1, hr]; rfl
      have H0 : Hid (wrT1 0 x now S = { S with r1 := false, g1 := decide (x / 2 % 2 = 1), L := delF 2 S.L }) := by
        show stT1 now (ctT1 x S) = _
        unfold stT1
        rw [show (ctT1 x S).r1 = false from hr, if_neg (by decide)]
        unfold ctT1
        rw [hr]
      rw [hr] at h1
      clear hb1 hb3 x0 x1 HW hok HT HP HX hr y1
      go_enter Tryz.func68, Tryz.ntmps68
      go_wp2_with fail
      with_reducible refine (rcancel_S 2 h1.wb hl).mono ?_
      rintro e w1 ⟨rfl, u2, hw2, hch⟩
      have h2 := h1.wheel hw2 hch
      go_wp2
      go_ret
      exact ⟨rfl, _, by rw [H0.out]; exact h2, C1.trans (CB.of_ch hch)⟩
    · have hb : bits .and .u32 x 1 = 1 := by rw [hb1, hr]; rfl
      have H0 : Hid (wrT1 0 x now S = armS 2 T { S with r1 := true, g1 := decide (x / 2 % 2 = 1) }) := by
        show stT1 now (ctT1 x S) = _
        unfold stT1
        rw [show (ctT1 x S).r1 = true from hr, if_pos rfl]
        unfold ctT1
        rw [hr, HT.out]
      rw [hr] at h1
      have hd1 : Bx (w.setCell ⟨m, 6, none⟩ (.int .u32 (bits .and .u32 x 3))).drew m r y O p n V { S with r1 := true, g1 := decide (x / 2 % 2 = 1) } := h1.drewN 1
      have z1 : (w.setCell ⟨m, 6, none⟩ (.int .u32 (bits .and .u32 x 3))).drew.cell? ⟨m, 7, none⟩ = some (.int .u32 pp) := y1
      clear hb1 hb3 x0 x1 hr y1
      go_enter Tryz.func68, Tryz.ntmps68
      go_wp2_with fail
      generalize w.setCell ⟨m, 6, none⟩ (.int .u32 (bits .and .u32 x 3)) = W1 at h1 hd1 z1 C1 ⊢
      go_region_held3 (fun w' => w'.cell? ⟨m, 7, none⟩ = some (.int .u32 pp)) (first | with_reducible exact z1 | with_reducible exact z2)
        (first
          | (go_at_call 78; rw [HX.out, HW.out]; (with_reducible refine (rarm_S (W := W1.drew) 2 T hd1.wb hok hl ha).mono ?_); rintro e w4 ⟨rfl, v4, hw4, hch4⟩; have h4 := hd1.wheel hw4 hch4; have z2 : w4.cell? ⟨m, 7, none⟩ = some (.int .u32 pp) := by rw [← HP.out]; exact h4.b7))
      go_wp2
      go_ret
      exact ⟨rfl, _, by rw [H0.out]; exact h4, (C1.trans (CB.drewN m O V W1 1)).trans (CB.of_ch hch4)⟩
  | 1 =>
    obtain rfl : z = 1 := by omega
    clear hz hk hb1 hb3
    go_enter Tryz.func68, Tryz.ntmps68
    go_wp2
    go_ret
    exact ⟨rfl, V, h.setP1 x, CB.set m O V w 7 _⟩
  | 2 =>
    obtain rfl : z = 2 := by omega
    clear hz hk
    cases hr : decide (x % 2 = 1)
    · have hb : bits .and .u32 x 1 = 0 := by rw [hb1, hr]; rfl
      have H0 : Hid (wrT1 2 x now S = S) := by show fgT1 x S = _; unfold fgT1; rw [if_neg (of_decide_eq_false hr)]
      clear hb1 hb3 x0 x1 hr
      go_enter Tryz.func68, Tryz.ntmps68
      go_wp2
      go_ret
      exact ⟨rfl, V, by rw [H0.out]; exact h, CB.refl _ _ _ _⟩
    · have hb : bits .and .u32 x 1 = 1 := by rw [hb1, hr]; rfl
      have H0 : Hid (wrT1 2 x now S = { S with s1 := false }) := by show fgT1 x S = _; unfold fgT1; rw [if_pos (of_decide_eq_true hr)]
      clear hb1 hb3 x0 x1 hr
      have h1 := h.setS1 0 false rfl
      go_enter Tryz.func68, Tryz.ntmps68
      go_wp2
      go_ret
      exact ⟨rfl, V, by rw [H0.out]; exact h1, CB.set m O V w 8 _⟩
  | k + 3 =>
    have hz4 : 3 ≤ z := by omega
    have HZ : Hid (decide (k + 3 < 3) = false) := Lib.hid (decide_eq_false (by omega))
    have z0 : (z == 0) = false := beq_false_of_ne (by omega)
    have z1 : (z == 1) = false := beq_false_of_ne (by omega)
    have z2 : (z == 2) = false := beq_false_of_ne (by omega)
    have z3 : ¬ z < 3 := by omega
    clear hz hk hb1 hb3
    go_enter Tryz.func68, Tryz.ntmps68
    go_wp2
    go_ret
    exact ⟨by rw [HZ.out]; rfl, V, h, CB.refl _ _ _ _⟩
end
end Go.Proofs.YtkfedihaldpgmaaGreat
