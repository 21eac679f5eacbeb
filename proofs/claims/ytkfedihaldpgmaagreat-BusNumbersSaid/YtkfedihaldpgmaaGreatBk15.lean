/-
  Chapter 15: the document's bus: what is written to dma's and disk's words.
-/
import Derived.Test.YtkfedihaldpgmaaGreatBs15
import Derived.Deep.RegionHeld3
namespace Go.Proofs.YtkfedihaldpgmaaGreat
open Go.RowKit
set_option linter.unusedVariables false
set_option linter.unusedSimpArgs false
/-- how long a move takes -/
def dl (c : Int) : Int := min c 4096 / 4 + 1
theorem dl_wrap (now c : Int) (c0 : 0 ≤ c) (n0 : 0 ≤ now) (n1 : now ≤ 4611686018427387000) : IntKind.i64.wrap (IntKind.i64.wrap (now + IntKind.i64.wrap ((IntKind.i64.wrap (if 4096 < c then 4096 else c)).tdiv 4)) + 1) = now + dl c := by
  have e : (if 4096 < c then 4096 else c) = min c 4096 := by split <;> omega
  rw [e]
  unfold dl
  obtain ⟨k, hk⟩ : ∃ k, min c 4096 = k := ⟨_, rfl⟩
  have k0 : 0 ≤ k := by omega
  have k1 : k ≤ 4096 := by omega
  rw [hk]
  clear hk e c0
  have w1 : IntKind.i64.wrap k = k := by rw [IntKind.wrap_i64]; omega
  rw [w1, Int.tdiv_eq_ediv_of_nonneg k0]
  have w2 : IntKind.i64.wrap (k / 4) = k / 4 := by rw [IntKind.wrap_i64]; omega
  rw [w2]
  have w3 : IntKind.i64.wrap (now + k / 4) = now + k / 4 := by rw [IntKind.wrap_i64]; omega
  rw [w3, IntKind.wrap_i64]
  omega
/-- Arm of device d for T -/
def armS (d T : Int) (S : BS) : BS := { S with L := armF d T S.a S.L, a := S.a + 1 }
def startM (now : Int) (S : BS) : BS := armS 4 (now + dl S.n) { S with bz := true }
def ctlM (v now : Int) (S : BS) : BS := if v % 2 = 1 ∧ S.bz = false then startM now S else S
def wrM (k : Nat) (v now : Int) (S : BS) : BS := match k with
  | 0 => { S with f := v }
  | 1 => { S with t := v }
  | 2 => { S with n := v }
  | 3 => ctlM v now S
  | 4 => { S with dn := S.dn && !decide (v / 2 % 2 = 1), er := S.er && !decide (v / 4 % 2 = 1) }
  | _ => S
def startK (v now : Int) (S : BS) : BS := armS 5 (now + 32) { S with kc := v, kz := true }
def ctlK (v now : Int) (S : BS) : BS := match S.kz with
  | true => S
  | false => startK v now S
def wrK (k : Nat) (v now : Int) (S : BS) : BS := match k with
  | 0 => { S with z := v }
  | 1 => { S with kt := v }
  | 2 => ctlK v now S
  | 3 => { S with kd := S.kd && !decide (v / 2 % 2 = 1), ke := S.ke && !decide (v / 4 % 2 = 1) }
  | _ => S
section
variable {w w' : World} {m r y : Nat} {O : Nat → Prop} {p n : Nat} {V : SV} {S : BS}
theorem rarm_S {W : World} {Q : Nat → Value} {u : Value} {L : List Ev} {a : Int} (d T : Int) (hw : Wb Q W m u L a) (hok : okB d T = true) (hl : L.length ≤ 990000) (ha : 0 ≤ a ∧ a ≤ 1000000) :
    Calls Tryz.prog 78 #[.pointer (some ⟨m, 1, none⟩), .int .i64 d, .int .i64 T] W (RetX Q (.bool true) W m u (armF d T a L) (a + 1)) := by
  have := rarm_any d T hw hl ha
  unfold armL armA at this
  rw [hok, if_pos rfl, if_pos rfl] at this
  exact this
set_option maxRecDepth 100000 in
set_option maxHeartbeats 1000000 in
theorem bdisk2_yes (x now : Int) (h : Bx w m r y O p n V S) (hz : S.kz = false) (hl : S.L.length ≤ 990000) (ha : 0 ≤ S.a ∧ S.a ≤ 1000000) (n0 : 0 ≤ now) (n1 : now ≤ 4611686018427387000) :
    Calls Tryz.prog 71 #[.pointer (some ⟨m, 0, none⟩), .int .u32 2, .int .u32 x, .int .i64 now] w (RetN (.bool true) w m r y O p n V (startK x now S)) := by
  have k6 := h.b21
  have f6 := h.wb.st.frozen 21
  have f5 := h.wb.st.frozen 20
  have k5 := h.b20
  obtain ⟨s, hs⟩ : ∃ s, sw S.kz S.kd S.ke = s := ⟨_, rfl⟩
  have e1 := sw_is0 S.kz S.kd S.ke
  rw [hs] at e1 k6
  rw [hz] at e1
  have e2 : (bits .and .u32 s 1 == 0) = true := e1
  clear e1
  obtain ⟨s2, hs2⟩ : ∃ s2, Hid (bits .or .u32 s 1 = s2) := ⟨_, Lib.hid rfl⟩
  have H0 := h.setKc x
  have H1 : Hid (Bx ((w.setCell ⟨m, 20, none⟩ (.int .u32 x)).setCell ⟨m, 21, none⟩ (.int .u32 s2)) m r y O p n V { S with kc := x, kz := true }) := H0.setKs s2 true S.kd S.ke (by rw [← hs2.out, ← hs]; exact sw_or1 _ _ _)
  have C1 : CB m O V V w ((w.setCell ⟨m, 20, none⟩ (.int .u32 x)).setCell ⟨m, 21, none⟩ (.int .u32 s2)) := (CB.set m O V w 20 (.int .u32 x)).trans (CB.set m O V _ 21 (.int .u32 s2))
  clear hs hz H0
  obtain ⟨T, hT0⟩ : ∃ T, now + 32 = T := ⟨_, rfl⟩
  have hok : okB 5 T = true := by unfold okB; apply decide_eq_true; omega
  have HA : Hid (startK x now S = armS 5 T { S with kc := x, kz := true }) := by show _ = _; unfold startK; rw [hT0]
  have HT := Lib.hid hT0
  clear hT0
  go_enter Tryz.func71, Tryz.ntmps71
  go_wp2_with fail
  rw [hs2.out, HT.out]
  generalize (w.setCell ⟨m, 20, none⟩ (.int .u32 x)).setCell ⟨m, 21, none⟩ (.int .u32 s2) = w1 at H1 C1 ⊢
  have h1 := H1.out
  with_reducible refine (rarm_S (W := w1) 5 T h1.wb hok hl ha).mono ?_
  rintro e w4 ⟨rfl, v4, hw4, hch4⟩
  have h4 := h1.wheel hw4 hch4
  go_wp2
  go_ret
  exact ⟨rfl, _, by rw [HA.out]; exact h4, C1.trans (CB.of_ch hch4)⟩
set_option maxRecDepth 100000 in
set_option maxHeartbeats 1000000 in
theorem bdisk_any (k : Nat) (z x now : Int) (h : Bx w m r y O p n V S) (hk : k ≤ 15) (hz : z = (k : Int)) (x0 : 0 ≤ x) (x1 : x < 4294967296) (hl : S.L.length ≤ 990000) (ha : 0 ≤ S.a ∧ S.a ≤ 1000000) (n0 : 0 ≤ now) (n1 : now ≤ 4611686018427387000) :
    Calls Tryz.prog 71 #[.pointer (some ⟨m, 0, none⟩), .int .u32 z, .int .u32 x, .int .i64 now] w (RetN (.bool (decide (k < 4))) w m r y O p n V (wrK k x now S)) := by
  have k18 := h.b18
  have k19 := h.b19
  have k20 := h.b20
  have k21 := h.b21
  have f18 := h.wb.st.frozen 18
  have f19 := h.wb.st.frozen 19
  have f20 := h.wb.st.frozen 20
  have f21 := h.wb.st.frozen 21
  match k with
  | 0 =>
    obtain rfl : z = 0 := by omega
    clear hz hk
    go_enter Tryz.func71, Tryz.ntmps71
    go_wp2
    go_ret
    exact ⟨rfl, V, h.setZ x, CB.set m O V w 18 _⟩
  | 1 =>
    obtain rfl : z = 1 := by omega
    clear hz hk
    go_enter Tryz.func71, Tryz.ntmps71
    go_wp2
    go_ret
    exact ⟨rfl, V, h.setKt x, CB.set m O V w 19 _⟩
  | 2 =>
    obtain rfl : z = 2 := by omega
    cases hb : S.kz
    · have HA : wrK 2 x now S = startK x now S := by show ctlK x now S = _; unfold ctlK; rw [hb]
      rw [HA]
      exact bdisk2_yes x now h hb hl ha n0 n1
    · have HA : Hid (wrK 2 x now S = S) := by show ctlK x now S = _; unfold ctlK; rw [hb]
      obtain ⟨s, hs⟩ : ∃ s, sw S.kz S.kd S.ke = s := ⟨_, rfl⟩
      have e1 := sw_is0 S.kz S.kd S.ke
      rw [hs] at e1 k21
      rw [hb] at e1
      have e2 : (bits .and .u32 s 1 == 0) = false := e1
      clear e1 hs hb hz hk
      go_enter Tryz.func71, Tryz.ntmps71
      go_wp2
      go_ret
      exact ⟨rfl, V, by rw [HA.out]; exact h, CB.refl _ _ _ _⟩
  | 3 =>
    obtain rfl : z = 3 := by omega
    clear hz hk
    obtain ⟨s, hs⟩ : ∃ s, sw S.kz S.kd S.ke = s := ⟨_, rfl⟩
    rw [hs] at k21
    obtain ⟨b, hy⟩ : ∃ b, Hid (bits .and .u32 x 6 = b) := ⟨_, Lib.hid rfl⟩
    obtain ⟨s2, hs2⟩ : ∃ s2, Hid (bits .andNot .u32 s b = s2) := ⟨_, Lib.hid rfl⟩
    have H1 : Hid (Bx (w.setCell ⟨m, 21, none⟩ (.int .u32 s2)) m r y O p n V { S with kd := S.kd && !decide (x / 2 % 2 = 1), ke := S.ke && !decide (x / 4 % 2 = 1) }) := h.setKs s2 S.kz (S.kd && !decide (x / 2 % 2 = 1)) (S.ke && !decide (x / 4 % 2 = 1)) (by rw [← hs2.out, ← hy.out, ← hs, v_and6 x x0 x1]; exact sw_clr _ _ _ _ _)
    clear hs
    go_enter Tryz.func71, Tryz.ntmps71
    go_wp2
    rw [hy.out, hs2.out]
    go_ret
    exact ⟨rfl, V, H1.out, CB.set m O V w 21 _⟩
  | k + 4 =>
    have hw : wrK (k + 4) x now S = S := rfl
    have hz4 : 4 ≤ z := by omega
    have hzn : decide (k + 4 < 4) = false := decide_eq_false (by omega)
    have HZ : Hid (decide (k + 4 < 4) = false) := hzn
    clear hz hk hzn
    have z0 : (z == 0) = false := beq_false_of_ne (by omega)
    have z1 : (z == 1) = false := beq_false_of_ne (by omega)
    have z2 : (z == 2) = false := beq_false_of_ne (by omega)
    have z3 : (z == 3) = false := beq_false_of_ne (by omega)
    have z4 : ¬ z < 4 := by omega
    go_enter Tryz.func71, Tryz.ntmps71
    go_wp2
    go_ret
    exact ⟨by rw [HZ.out]; rfl, V, h, CB.refl _ _ _ _⟩
set_option maxRecDepth 100000 in
set_option maxHeartbeats 1000000 in
theorem bdma3_yes (x now : Int) (h : Bx w m r y O p n V S) (hx : x % 2 = 1) (hz : S.bz = false) (x0 : 0 ≤ x) (x1 : x < 4294967296) (hl : S.L.length ≤ 990000) (ha : 0 ≤ S.a ∧ S.a ≤ 1000000) (c0 : 0 ≤ S.n) (c1 : S.n < 4294967296) (n0 : 0 ≤ now) (n1 : now ≤ 4611686018427387000) :
    Calls Tryz.prog 70 #[.pointer (some ⟨m, 0, none⟩), .int .u32 3, .int .u32 x, .int .i64 now] w (RetN (.bool true) w m r y O p n V (startM now S)) := by
  have hv := v_and1 x x0 x1
  rw [hx] at hv
  have hv2 : (bits .and .u32 x 1 != 0) = true := by rw [hv]; rfl
  clear hv hx
  have k6 := h.b17
  have f6 := h.wb.st.frozen 17
  have k5 := h.b16
  obtain ⟨s, hs⟩ : ∃ s, sw S.bz S.dn S.er = s := ⟨_, rfl⟩
  have e1 := sw_is0 S.bz S.dn S.er
  rw [hs] at e1 k6
  rw [hz] at e1
  have e2 : (bits .and .u32 s 1 == 0) = true := e1
  clear e1
  obtain ⟨s2, hs2⟩ : ∃ s2, Hid (bits .or .u32 s 1 = s2) := ⟨_, Lib.hid rfl⟩
  have H1 : Hid (Bx (w.setCell ⟨m, 17, none⟩ (.int .u32 s2)) m r y O p n V { S with bz := true }) := h.setMs s2 true S.dn S.er (by rw [← hs2.out, ← hs]; exact sw_or1 _ _ _)
  have C1 : CB m O V V w (w.setCell ⟨m, 17, none⟩ (.int .u32 s2)) := CB.set m O V w 17 (.int .u32 s2)
  clear hs hz
  obtain ⟨c, hC⟩ : ∃ c, S.n = c := ⟨_, rfl⟩
  rw [hC] at k5 c0 c1
  obtain ⟨T, HT⟩ : ∃ T, Hid (IntKind.i64.wrap (IntKind.i64.wrap (now + IntKind.i64.wrap ((IntKind.i64.wrap (if 4096 < c then 4096 else c)).tdiv 4)) + 1) = T) := ⟨_, Lib.hid rfl⟩
  have hT : T = now + dl c := by rw [← HT.out]; exact dl_wrap now c c0 n0 n1
  obtain ⟨Y, HX⟩ : ∃ Y, Hid ((if 4096 < c then 4096 else c) = Y) := ⟨_, Lib.hid rfl⟩
  rw [HX.out] at HT
  have hok : okB 4 T = true := by unfold okB; apply decide_eq_true; have : 1 ≤ dl c := by { unfold dl; omega }; omega
  have HA : Hid (startM now S = armS 4 T { S with bz := true }) := by show _ = _; unfold startM; rw [hT, hC]
  have HK : Hid (S.n = c) := hC
  clear hC hT n0 n1
  go_enter Tryz.func70, Tryz.ntmps70
  go_wp2_with fail
  rw [hs2.out]
  generalize w.setCell ⟨m, 17, none⟩ (.int .u32 s2) = w1 at H1 C1 ⊢
  have h1 := H1.out
  have hd : Bx w1.drew m r y O p n V { S with bz := true } := h1.drewN 1
  have hdw : Wb (cB r y n V { S with bz := true }) w1.drew m V.u S.L S.a := hd.wb
  have x1' : w1.drew.cell? ⟨m, 16, none⟩ = some (.int .u32 c) := HK.out ▸ hd.b16
  go_region_held3 (fun w' => w'.cell? ⟨m, 16, none⟩ = some (.int .u32 c)) (first | with_reducible exact x1' | with_reducible exact y1)
    (first
      | (go_at_call 78; rw [HX.out, HT.out]; (with_reducible refine (rarm_S (W := w1.drew) 4 T hdw hok hl ha).mono ?_); rintro e w4 ⟨rfl, v4, hw4, hch4⟩; have h4 := hd.wheel hw4 hch4; have y1 : w4.cell? ⟨m, 16, none⟩ = some (.int .u32 c) := by rw [← HK.out]; exact h4.b16))
  go_wp2
  go_ret
  exact ⟨rfl, _, by rw [HA.out]; exact h4, (C1.trans (CB.drewN m O V w1 1)).trans (CB.of_ch hch4)⟩
set_option maxRecDepth 100000 in
set_option maxHeartbeats 1000000 in
theorem bdma3_no (x now : Int) (h : Bx w m r y O p n V S) (hx : ¬ (x % 2 = 1 ∧ S.bz = false)) (x0 : 0 ≤ x) (x1 : x < 4294967296) :
    Calls Tryz.prog 70 #[.pointer (some ⟨m, 0, none⟩), .int .u32 3, .int .u32 x, .int .i64 now] w fun e w' => e = .returned (.bool true) ∧ w = w' := by
  have hv := v_and1 x x0 x1
  have k6 := h.b17
  obtain ⟨s, hs⟩ : ∃ s, sw S.bz S.dn S.er = s := ⟨_, rfl⟩
  have e1 := sw_is0 S.bz S.dn S.er
  rw [hs] at e1 k6
  by_cases hb : x % 2 = 1
  · rw [hb] at hv
    have hv2 : (bits .and .u32 x 1 != 0) = true := by rw [hv]; rfl
    have hz : S.bz = true := by
      cases hz : S.bz
      · exact absurd ⟨hb, hz⟩ hx
      · rfl
    rw [hz] at e1
    have e2 : (bits .and .u32 s 1 == 0) = false := e1
    clear e1 hv hb hx hz hs
    go_enter Tryz.func70, Tryz.ntmps70
    go_wp2
    go_ret
    exact ⟨rfl, rfl⟩
  · have hv2 : (bits .and .u32 x 1 != 0) = false := by rw [hv, show x % 2 = 0 by omega]; rfl
    clear e1 hv hb hx hs
    go_enter Tryz.func70, Tryz.ntmps70
    go_wp2
    go_ret
    exact ⟨rfl, rfl⟩
set_option maxRecDepth 100000 in
set_option maxHeartbeats 1000000 in
theorem bdma_any (k : Nat) (z x now : Int) (h : Bx w m r y O p n V S) (hk : k ≤ 15) (hz : z = (k : Int)) (x0 : 0 ≤ x) (x1 : x < 4294967296) (hl : S.L.length ≤ 990000) (ha : 0 ≤ S.a ∧ S.a ≤ 1000000) (c0 : 0 ≤ S.n) (c1 : S.n < 4294967296) (n0 : 0 ≤ now) (n1 : now ≤ 4611686018427387000) :
    Calls Tryz.prog 70 #[.pointer (some ⟨m, 0, none⟩), .int .u32 z, .int .u32 x, .int .i64 now] w (RetN (.bool (decide (k < 5))) w m r y O p n V (wrM k x now S)) := by
  have k14 := h.b14
  have k15 := h.b15
  have k16 := h.b16
  have k17 := h.b17
  have f14 := h.wb.st.frozen 14
  have f15 := h.wb.st.frozen 15
  have f16 := h.wb.st.frozen 16
  have f17 := h.wb.st.frozen 17
  match k with
  | 0 =>
    obtain rfl : z = 0 := by omega
    clear hz hk
    go_enter Tryz.func70, Tryz.ntmps70
    go_wp2
    go_ret
    exact ⟨rfl, V, h.setF x, CB.set m O V w 14 _⟩
  | 1 =>
    obtain rfl : z = 1 := by omega
    clear hz hk
    go_enter Tryz.func70, Tryz.ntmps70
    go_wp2
    go_ret
    exact ⟨rfl, V, h.setT x, CB.set m O V w 15 _⟩
  | 2 =>
    obtain rfl : z = 2 := by omega
    clear hz hk
    go_enter Tryz.func70, Tryz.ntmps70
    go_wp2
    go_ret
    exact ⟨rfl, V, h.setN x, CB.set m O V w 16 _⟩
  | 3 =>
    obtain rfl : z = 3 := by omega
    by_cases hc : x % 2 = 1 ∧ S.bz = false
    · have HA : wrM 3 x now S = startM now S := by show ctlM x now S = _; unfold ctlM; rw [if_pos hc]
      rw [HA]
      exact bdma3_yes x now h hc.1 hc.2 x0 x1 hl ha c0 c1 n0 n1
    · have HA : wrM 3 x now S = S := by show ctlM x now S = _; unfold ctlM; rw [if_neg hc]
      rw [HA]
      exact (bdma3_no x now h hc x0 x1).mono fun e w' ⟨he, hw⟩ => ⟨he, V, hw ▸ h, hw ▸ CB.refl _ _ _ _⟩
  | 4 =>
    obtain rfl : z = 4 := by omega
    clear hz hk
    obtain ⟨s, hs⟩ : ∃ s, sw S.bz S.dn S.er = s := ⟨_, rfl⟩
    rw [hs] at k17
    obtain ⟨b, hy⟩ : ∃ b, Hid (bits .and .u32 x 6 = b) := ⟨_, Lib.hid rfl⟩
    obtain ⟨s2, hs2⟩ : ∃ s2, Hid (bits .andNot .u32 s b = s2) := ⟨_, Lib.hid rfl⟩
    have H1 : Hid (Bx (w.setCell ⟨m, 17, none⟩ (.int .u32 s2)) m r y O p n V { S with dn := S.dn && !decide (x / 2 % 2 = 1), er := S.er && !decide (x / 4 % 2 = 1) }) := h.setMs s2 S.bz (S.dn && !decide (x / 2 % 2 = 1)) (S.er && !decide (x / 4 % 2 = 1)) (by rw [← hs2.out, ← hy.out, ← hs, v_and6 x x0 x1]; exact sw_clr _ _ _ _ _)
    clear hs
    go_enter Tryz.func70, Tryz.ntmps70
    go_wp2
    rw [hy.out, hs2.out]
    go_ret
    exact ⟨rfl, V, H1.out, CB.set m O V w 17 _⟩
  | k + 5 =>
    have hw : wrM (k + 5) x now S = S := rfl
    have hz4 : 5 ≤ z := by omega
    have hzn : decide (k + 5 < 5) = false := decide_eq_false (by omega)
    have HZ : Hid (decide (k + 5 < 5) = false) := hzn
    clear hz hk hzn
    have z0 : (z == 0) = false := beq_false_of_ne (by omega)
    have z1 : (z == 1) = false := beq_false_of_ne (by omega)
    have z2 : (z == 2) = false := beq_false_of_ne (by omega)
    have z3 : (z == 3) = false := beq_false_of_ne (by omega)
    have z4 : (z == 4) = false := beq_false_of_ne (by omega)
    have z5 : ¬ z < 5 := by omega
    go_enter Tryz.func70, Tryz.ntmps70
    go_wp2
    go_ret
    exact ⟨by rw [HZ.out]; rfl, V, h, CB.refl _ _ _ _⟩
end
end Go.Proofs.YtkfedihaldpgmaaGreat
