/-
  Chapter 15: the document's bus: move and sector, in the one state.
-/
import Derived.Test.YtkfedihaldpgmaaGreatBk15
namespace Go.Proofs.YtkfedihaldpgmaaGreat
open Go.RowKit
set_option linter.unusedVariables false
set_option linter.unusedSimpArgs false
def movB (p : Nat) (S : BS) : Bool := decide (S.n ≤ 4096) && (inB p S.f S.n && inB p S.t S.n)
def movC (S : BS) : Nat → Int := putC S.C S.t.toNat S.n.toNat (fun i => S.C (S.f.toNat + i))
def fiM (p : Nat) (S : BS) : BS := match movB p S with
  | true => { S with bz := false, dn := true, C := movC S }
  | false => { S with bz := false, dn := true, er := true }
def okX (p n : Nat) (S : BS) : Bool := decide (S.z < n) && ((decide (S.kc = 1) || decide (S.kc = 2)) && inB p S.kt 64)
def rdK (S : BS) : Nat → Int := putC S.C S.kt.toNat 64 (fun i => S.D (S.z.toNat * 64 + i))
def wtK (S : BS) : Nat → Int := putC S.D (S.z.toNat * 64) 64 (fun i => S.C (S.kt.toNat + i))
def ioX (S : BS) : Nat → Int := if S.kc = 1 then rdK S else S.C
def ioY (S : BS) : Nat → Int := if S.kc = 1 then S.D else wtK S
def doK (S : BS) : BS := { S with C := ioX S, D := ioY S }
theorem dk_read {S : BS} (h : S.kc = 1) : doK S = { S with C := rdK S } := by unfold doK ioX ioY; rw [if_pos h, if_pos h]
theorem dk_write {S : BS} (h : ¬ S.kc = 1) : doK S = { S with D := wtK S } := by unfold doK ioX ioY; rw [if_neg h, if_neg h]
def fiK (p n : Nat) (S : BS) : BS := match okX p n S with
  | true => { doK S with kz := false, kd := true }
  | false => { S with kz := false, kd := true, ke := true }
section
variable {w w' : World} {m r y : Nat} {O : Nat → Prop} {p n : Nat} {V : SV} {S : BS}
theorem blin_q {C D : Nat → Int} {k : Nat} {b : Bool} (a c : Int) (hm : Mk 62 w r y O p n C D) (hb : inB p a c = b) (h0 : 0 ≤ a) (h1 : a < 4294967296) (n0 : 0 ≤ c) (n1 : c ≤ 4294967296) :
    Calls Tryz.prog 63 #[.pointer (some ⟨r, 0, none⟩), .int .u32 a, .int .i64 c] (w.drewN k) fun e w' => e = .returned (.bool b) ∧ ∃ k, w' = w.drewN k :=
  (lin_any a c (hm.drewN k) h0 h1 (by omega) (by omega)).mono fun _ _ h => ⟨by rw [h.1, hb], _, h.2.symm⟩
set_option maxRecDepth 100000 in
set_option maxHeartbeats 2000000 in
theorem bmove_any (h : Bx w m r y O p n V S) (f0 : 0 ≤ S.f) (f1 : S.f < 4294967296) (t0 : 0 ≤ S.t) (t1 : S.t < 4294967296) (c0 : 0 ≤ S.n) (c1 : S.n < 4294967296) :
    Calls Tryz.prog 79 #[.pointer (some ⟨m, 0, none⟩)] w (RetN (.tuple #[]) w m r y O p n V (fiM p S)) := by
  have k6 := h.b17
  have f6 := h.wb.st.frozen 17
  obtain ⟨s, hs⟩ : ∃ s, sw S.bz S.dn S.er = s := ⟨_, rfl⟩
  rw [hs] at k6
  obtain ⟨s2, hs2⟩ : ∃ s2, Hid (bits .andNot .u32 s 1 = s2) := ⟨_, Lib.hid rfl⟩
  obtain ⟨s3, hs3⟩ : ∃ s3, Hid (bits .or .u32 s2 2 = s3) := ⟨_, Lib.hid rfl⟩
  have e2 : s2 = sw false S.dn S.er := by rw [← hs2.out, ← hs]; exact sw_not1 _ _ _
  have e3 : s3 = sw false true S.er := by rw [← hs3.out, e2]; exact sw_or2 _ _ _
  have H3 : Hid (Bx (w.setCell ⟨m, 17, none⟩ (.int .u32 s3)) m r y O p n V { S with bz := false, dn := true }) := h.setMs s3 false true S.er e3
  have C3 : CB m O V V w (w.setCell ⟨m, 17, none⟩ (.int .u32 s3)) := CB.set m O V w 17 _
  obtain ⟨F, hF⟩ : ∃ F, S.f = F := ⟨_, rfl⟩
  obtain ⟨T, hT⟩ : ∃ T, S.t = T := ⟨_, rfl⟩
  obtain ⟨c, hC⟩ : ∃ c : Nat, S.n = c := ⟨S.n.toNat, by omega⟩
  have HB : Hid (movB p S = (decide ((c : Int) ≤ 4096) && (inB p F c && inB p T c))) := by show _ = _; unfold movB; rw [hF, hT, hC]
  have HM : Hid (movC S = putC S.C T.toNat c (fun i => S.C (F.toNat + i))) := by show _ = _; unfold movC; rw [hF, hT, hC]; rfl
  have q14 : ∀ {w1 : World} {V1 : SV} {S1 : BS}, Bx w1 m r y O p n V1 S1 → S1.f = S.f → w1.cell? ⟨m, 14, none⟩ = some (.int .u32 F) := fun h1 e1 => by rw [← hF, ← e1]; exact h1.b14
  have q15 : ∀ {w1 : World} {V1 : SV} {S1 : BS}, Bx w1 m r y O p n V1 S1 → S1.t = S.t → w1.cell? ⟨m, 15, none⟩ = some (.int .u32 T) := fun h1 e1 => by rw [← hT, ← e1]; exact h1.b15
  have q16 : ∀ {w1 : World} {V1 : SV} {S1 : BS}, Bx w1 m r y O p n V1 S1 → S1.n = S.n → w1.cell? ⟨m, 16, none⟩ = some (.int .u32 c) := fun h1 e1 => by rw [← hC, ← e1]; exact h1.b16
  have HW : Hid (IntKind.i64.wrap (c : Int) = c) := by show _ = _; rw [IntKind.wrap_i64]; omega
  have E3 := Lib.hid e3
  rw [hF] at f0 f1
  rw [hT] at t0 t1
  rw [hC] at c1
  have HC1 := Lib.hid c1
  clear hs e2 e3 hF hT hC c0 c1
  by_cases hc : (c : Int) ≤ 4096
  · have hgb : decide ((4096 : Int) < c) = false := decide_eq_false (by omega)
    cases hi : inB p F c
    · have HF : Hid (fiM p S = { S with bz := false, dn := true, er := true }) := by show _ = _; unfold fiM; rw [HB.out, decide_eq_true hc, hi]; rfl
      have HI := Lib.hid hi
      clear hi HB HM HC1
      go_enter Tryz.func79, Tryz.ntmps79
      go_wp2_with fail
      rw [hs2.out, hs3.out]
      generalize w.setCell ⟨m, 17, none⟩ (.int .u32 s3) = w1 at H3 C3 ⊢
      have h3 := H3.out
      have hm3 : Mk 62 w1 r y O p n S.C S.D := h3.mm
      have x0 := h3.b0
      have x14 := q14 h3 rfl
      have x15 := q15 h3 rfl
      have x16 := q16 h3 rfl
      go_quiet ((go_at_call 63; with_reducible exact blin_q F c hm3 HI.out f0 f1 (by omega) (by omega)))
      have H4 := Lib.hid (h3.drewN nq)
      have k17 : (w1.drewN nq).cell? ⟨m, 17, none⟩ = some (.int .u32 s3) := by rw [E3.out]; exact H4.out.b17
      have f17 := H4.out.wb.st.frozen 17
      obtain ⟨s5, hs5⟩ : ∃ s5, Hid (bits .or .u32 s3 4 = s5) := ⟨_, Lib.hid rfl⟩
      have H5 : Hid (Bx ((w1.drewN nq).setCell ⟨m, 17, none⟩ (.int .u32 s5)) m r y O p n V { S with bz := false, dn := true, er := true }) := H4.out.setMs s5 false true true (by rw [← hs5.out, E3.out]; exact sw_or4 _ _ _)
      go_wp2
      rw [hs5.out]
      refine bodyPost_ret (results_none rfl _ _ _) rfl ?_
      exact ⟨rfl, V, by rw [HF.out]; exact H5.out, (C3.trans (CB.drewN m O V w1 nq)).trans (CB.set m O V _ 17 _)⟩
    · cases hj : inB p T c
      · have HF : Hid (fiM p S = { S with bz := false, dn := true, er := true }) := by show _ = _; unfold fiM; rw [HB.out, decide_eq_true hc, hi, hj]; rfl
        have HI := Lib.hid hi
        have HJ := Lib.hid hj
        clear hi hj HB HM HC1
        go_enter Tryz.func79, Tryz.ntmps79
        go_wp2_with fail
        rw [hs2.out, hs3.out]
        generalize w.setCell ⟨m, 17, none⟩ (.int .u32 s3) = w1 at H3 C3 ⊢
        have h3 := H3.out
        have hm3 : Mk 62 w1 r y O p n S.C S.D := h3.mm
        have x0 := h3.b0
        have x14 := q14 h3 rfl
        have x15 := q15 h3 rfl
        have x16 := q16 h3 rfl
        go_quiet (first | (go_at_call 63; with_reducible exact blin_q F c hm3 HI.out f0 f1 (by omega) (by omega)) | (go_at_call 63; with_reducible exact blin_q T c hm3 HJ.out t0 t1 (by omega) (by omega)))
        have H4 := Lib.hid (h3.drewN nq)
        have k17 : (w1.drewN nq).cell? ⟨m, 17, none⟩ = some (.int .u32 s3) := by rw [E3.out]; exact H4.out.b17
        have f17 := H4.out.wb.st.frozen 17
        obtain ⟨s5, hs5⟩ : ∃ s5, Hid (bits .or .u32 s3 4 = s5) := ⟨_, Lib.hid rfl⟩
        have H5 : Hid (Bx ((w1.drewN nq).setCell ⟨m, 17, none⟩ (.int .u32 s5)) m r y O p n V { S with bz := false, dn := true, er := true }) := H4.out.setMs s5 false true true (by rw [← hs5.out, E3.out]; exact sw_or4 _ _ _)
        go_wp2
        rw [hs5.out]
        refine bodyPost_ret (results_none rfl _ _ _) rfl ?_
        exact ⟨rfl, V, by rw [HF.out]; exact H5.out, (C3.trans (CB.drewN m O V w1 nq)).trans (CB.set m O V _ 17 _)⟩
      · have HF : Hid (fiM p S = { S with bz := false, dn := true, C := movC S }) := by show _ = _; unfold fiM; rw [HB.out, decide_eq_true hc, hi, hj]; rfl
        have HI := Lib.hid hi
        have HJ := Lib.hid hj
        have hcn : Hid (cnt p F c = c) := by show _ = _; unfold cnt; rw [hi]; rfl
        have HU : Hid ({ S with bz := false, dn := true, C := movC S } = { S with bz := false, dn := true, C := uC p S.C T c (fun i => S.C (F.toNat + i)) }) := by
          show _ = _
          unfold uC
          rw [hj, HM.out]
        clear hi hj HB HM HC1
        go_enter Tryz.func79, Tryz.ntmps79
        go_wp2_with fail
        rw [hs2.out, hs3.out]
        generalize w.setCell ⟨m, 17, none⟩ (.int .u32 s3) = w1 at H3 C3 ⊢
        have h3 := H3.out
        have hm3 : Mk 62 w1 r y O p n S.C S.D := h3.mm
        have x0 := h3.b0
        have x14 := q14 h3 rfl
        have x15 := q15 h3 rfl
        have x16 := q16 h3 rfl
        go_quiet (first | (go_at_call 63; with_reducible exact blin_q F c hm3 HI.out f0 f1 (by omega) (by omega)) | (go_at_call 63; with_reducible exact blin_q T c hm3 HJ.out t0 t1 (by omega) (by omega)))
        have h4 : Bx (w1.drewN nq).drew m r y O p n V { S with bz := false, dn := true } := (h3.drewN nq).drewN 1
        have C4 : CB m O V V w (w1.drewN nq).drew := (C3.trans (CB.drewN m O V w1 nq)).trans (CB.drewN m O V _ 1)
        clear x0 x14 x15 x16 h3 hm3
        go_wp2_with fail
        generalize (w1.drewN nq) = w2 at h4 C4 ⊢
        have hm4 : Mk 62 w2.drew r y O p n S.C S.D := h4.mm
        have x0 := h4.b0
        have x14 := q14 h4 rfl
        have x16 := q16 h4 rfl
        go_region_held3 (fun w' => w'.cell? ⟨m, 0, none⟩ = some (.pointer (some ⟨r, 0, none⟩)) ∧ w'.cell? ⟨m, 14, none⟩ = some (.int .u32 F) ∧ w'.cell? ⟨m, 16, none⟩ = some (.int .u32 c)) (first | with_reducible exact ⟨x0, x14, x16⟩ | with_reducible exact ⟨y0, y14, y16⟩)
          (first
            | (go_at_call 84; rw [HW.out]; (with_reducible refine (lbytes_any (w := w2.drew) F c hm4 f0 f1 (by omega) (by omega)).mono ?_); rintro e w5 ⟨yb, rfl, hB5, hF5⟩; have h5 := h4.no hF5; have y0 := h5.b0; have y14 := q14 h5 rfl; have y16 := q16 h5 rfl))
        rw [hcn.out] at hB5
        have h6 : Bx w5.drew m r y O p n V { S with bz := false, dn := true } := h5.drewN 1
        have C6 : CB m O V V w w5.drew := (C4.trans (CB.of_no hF5)).trans (CB.drewN m O V w5 1)
        have hm6 : Mk 62 w5.drew r y O p n S.C S.D := h6.mm
        have hB6 : ByAt (fun k => w2.drew.heap.size ≤ k) w5.drew yb c (fun i => S.C (F.toNat + i)) := hB5.fr ((Fr.refl (fun _ => False) w5).drewN 1) (fun _ _ _ => id)
        have x0 := h6.b0
        have x15 := q15 h6 rfl
        clear hB5 h4 C4 hm4 hF5 h5
        go_wp2_with fail
        go_region_held3 (fun w' => w'.cell? ⟨m, 0, none⟩ = some (.pointer (some ⟨r, 0, none⟩)) ∧ w'.cell? ⟨m, 15, none⟩ = some (.int .u32 T)) (first | with_reducible exact ⟨x0, x15⟩ | with_reducible exact ⟨y0, y15⟩)
          (first
            | (go_at_call 85; (with_reducible refine (lput_any (w := w5.drew) T yb c (fun i => S.C (F.toNat + i)) hm6 hB6 t0 t1 (by omega)).mono ?_); rintro e w7 ⟨rfl, hm7, hF7⟩; have h7 := h6.mem hm7 hF7; have y0 := h7.b0; have y15 := q15 h7 rfl))
        go_wp2
        go_end0
        exact ⟨rfl, V, by rw [HF.out, HU.out]; exact h7, C6.trans (CB.of_mem hF7)⟩
  · have HF : Hid (fiM p S = { S with bz := false, dn := true, er := true }) := by show _ = _; unfold fiM; rw [HB.out, decide_eq_false hc]; rfl
    have hgb : decide ((4096 : Int) < c) = true := decide_eq_true (by omega)
    clear hc HB HM
    go_enter Tryz.func79, Tryz.ntmps79
    go_wp2_with fail
    rw [hs2.out, hs3.out]
    generalize w.setCell ⟨m, 17, none⟩ (.int .u32 s3) = w1 at H3 C3 ⊢
    have h3 := H3.out
    have hm3 : Mk 62 w1 r y O p n S.C S.D := h3.mm
    have x0 := h3.b0
    have x14 := q14 h3 rfl
    have x15 := q15 h3 rfl
    have x16 := q16 h3 rfl
    go_quiet (fail)
    have H4 := Lib.hid (h3.drewN nq)
    have k17 : (w1.drewN nq).cell? ⟨m, 17, none⟩ = some (.int .u32 s3) := by rw [E3.out]; exact H4.out.b17
    have f17 := H4.out.wb.st.frozen 17
    obtain ⟨s5, hs5⟩ : ∃ s5, Hid (bits .or .u32 s3 4 = s5) := ⟨_, Lib.hid rfl⟩
    have H5 : Hid (Bx ((w1.drewN nq).setCell ⟨m, 17, none⟩ (.int .u32 s5)) m r y O p n V { S with bz := false, dn := true, er := true }) := H4.out.setMs s5 false true true (by rw [← hs5.out, E3.out]; exact sw_or4 _ _ _)
    go_wp2
    rw [hs5.out]
    refine bodyPost_ret (results_none rfl _ _ _) rfl ?_
    exact ⟨rfl, V, by rw [HF.out]; exact H5.out, (C3.trans (CB.drewN m O V w1 nq)).trans (CB.set m O V _ 17 _)⟩
set_option maxRecDepth 100000 in
set_option maxHeartbeats 2000000 in
theorem bsector_any (h : Bx w m r y O p n V S) (hn : n ≤ 64) (z0 : 0 ≤ S.z) (z1 : S.z < 4294967296) (t0 : 0 ≤ S.kt) (t1 : S.kt < 4294967296) :
    Calls Tryz.prog 80 #[.pointer (some ⟨m, 0, none⟩)] w (RetN (.tuple #[]) w m r y O p n V (fiK p n S)) := by
  have k6 := h.b21
  have f6 := h.wb.st.frozen 21
  obtain ⟨s, hs⟩ : ∃ s, sw S.kz S.kd S.ke = s := ⟨_, rfl⟩
  rw [hs] at k6
  obtain ⟨s2, hs2⟩ : ∃ s2, Hid (bits .andNot .u32 s 1 = s2) := ⟨_, Lib.hid rfl⟩
  obtain ⟨s3, hs3⟩ : ∃ s3, Hid (bits .or .u32 s2 2 = s3) := ⟨_, Lib.hid rfl⟩
  have e2 : s2 = sw false S.kd S.ke := by rw [← hs2.out, ← hs]; exact sw_not1 _ _ _
  have e3 : s3 = sw false true S.ke := by rw [← hs3.out, e2]; exact sw_or2 _ _ _
  have H3 : Hid (Bx (w.setCell ⟨m, 21, none⟩ (.int .u32 s3)) m r y O p n V { S with kz := false, kd := true }) := h.setKs s3 false true S.ke e3
  have C3 : CB m O V V w (w.setCell ⟨m, 21, none⟩ (.int .u32 s3)) := CB.set m O V w 21 _
  obtain ⟨Z, hZ⟩ : ∃ Z : Nat, S.z = Z := ⟨S.z.toNat, by omega⟩
  obtain ⟨T, hT⟩ : ∃ T, S.kt = T := ⟨_, rfl⟩
  obtain ⟨c, hC⟩ : ∃ c, S.kc = c := ⟨_, rfl⟩
  have q18 : ∀ {w1 : World} {V1 : SV} {S1 : BS}, Bx w1 m r y O p n V1 S1 → S1.z = S.z → w1.cell? ⟨m, 18, none⟩ = some (.int .u32 Z) := fun h1 e1 => by rw [← hZ, ← e1]; exact h1.b18
  have q19 : ∀ {w1 : World} {V1 : SV} {S1 : BS}, Bx w1 m r y O p n V1 S1 → S1.kt = S.kt → w1.cell? ⟨m, 19, none⟩ = some (.int .u32 T) := fun h1 e1 => by rw [← hT, ← e1]; exact h1.b19
  have q20 : ∀ {w1 : World} {V1 : SV} {S1 : BS}, Bx w1 m r y O p n V1 S1 → S1.kc = S.kc → w1.cell? ⟨m, 20, none⟩ = some (.int .u32 c) := fun h1 e1 => by rw [← hC, ← e1]; exact h1.b20
  have hwn := wrap_n n hn
  have E3 := Lib.hid e3
  have HOKK : okX p n S = (decide (Z < n) && ((decide (c = 1) || decide (c = 2)) && inB p T 64)) := by
    unfold okX
    rw [hZ, hC, hT]
    congr 1
    rw [decide_eq_decide]
    omega
  rw [hT] at t0 t1
  clear hs e2 e3
  by_cases hzn : Z < n
  · have hzI : decide ((n : Int) ≤ (Z : Int)) = false := decide_eq_false (by omega)
    have hzN : decide (n ≤ Z) = false := decide_eq_false (by omega)
    by_cases hc : c = 1 ∨ c = 2
    · have hcc : (decide (c = 1) || decide (c = 2)) = true := by
        rcases hc with e | e
        · rw [decide_eq_true e]; rfl
        · rw [decide_eq_true e]; exact Bool.or_true _
      cases hi : inB p T 64
      · have HOK : okX p n S = false := by rw [HOKK, hi, Bool.and_false, Bool.and_false]
        have HF : Hid (fiK p n S = { S with kz := false, kd := true, ke := true }) := by show _ = _; unfold fiK; rw [HOK]
        have HI := Lib.hid hi
        clear HOK HOKK hi hcc z0 z1 hZ hT hC
        rcases hc with rfl | rfl
        all_goals
          go_enter Tryz.func80, Tryz.ntmps80
          go_wp2_with fail
          rw [hs2.out, hs3.out]
          generalize w.setCell ⟨m, 21, none⟩ (.int .u32 s3) = w1 at H3 C3 ⊢
          have h3 := H3.out
          have hm3 : Mk 62 w1 r y O p n S.C S.D := h3.mm
          have x0 := h3.b0
          have x18 := q18 h3 rfl
          have x19 := q19 h3 rfl
          have x20 := q20 h3 rfl
          have x22 := h3.b22
          go_quiet ((go_at_call 63; with_reducible exact blin_q T 64 hm3 HI.out t0 t1 (by omega) (by omega)))
          have H4 := Lib.hid (h3.drewN nq)
          have k21 : (w1.drewN nq).cell? ⟨m, 21, none⟩ = some (.int .u32 s3) := by rw [E3.out]; exact H4.out.b21
          have f21 := H4.out.wb.st.frozen 21
          obtain ⟨s5, hs5⟩ : ∃ s5, Hid (bits .or .u32 s3 4 = s5) := ⟨_, Lib.hid rfl⟩
          have H5 : Hid (Bx ((w1.drewN nq).setCell ⟨m, 21, none⟩ (.int .u32 s5)) m r y O p n V { S with kz := false, kd := true, ke := true }) := H4.out.setKs s5 false true true (by rw [← hs5.out, E3.out]; exact sw_or4 _ _ _)
          go_wp2
          rw [hs5.out]
          refine bodyPost_ret (results_none rfl _ _ _) rfl ?_
          exact ⟨rfl, V, by rw [HF.out]; exact H5.out, (C3.trans (CB.drewN m O V w1 nq)).trans (CB.set m O V _ 21 _)⟩
      · have HOK : okX p n S = true := by rw [HOKK, hi, hcc, decide_eq_true hzn]; rfl
        have HI := Lib.hid hi
        have HU : Hid (uC p S.C T 64 (fun i => S.D (Z * 64 + i)) = putC S.C T.toNat 64 (fun i => S.D (Z * 64 + i))) := by show _ = _; have h2 : inB p T ((64 : Nat) : Int) = true := hi; unfold uC; rw [h2]
        have hcn : Hid (cnt p T 64 = 64) := by show _ = _; unfold cnt; rw [hi]; rfl
        have hsc := slice_c y Z n hzn hn
        have hsd := slice_d y Z n hzn hn
        have HZN := Lib.hid hzn
        rcases hc with rfl | rfl
        · have HF : Hid (fiK p n S = { S with kz := false, kd := true, C := putC S.C T.toNat 64 (fun i => S.D (Z * 64 + i)) }) := by show _ = _; unfold fiK; rw [HOK]; show ({ doK S with kz := false, kd := true } : BS) = _; rw [dk_read hC]; unfold rdK; rw [hT, hZ]; rfl
          clear HOK HOKK hi hcc z0 z1 hZ hT hC
          go_enter Tryz.func80, Tryz.ntmps80
          go_wp2_with fail
          rw [hs2.out, hs3.out]
          generalize w.setCell ⟨m, 21, none⟩ (.int .u32 s3) = w1 at H3 C3 ⊢
          have h3 := H3.out
          have hm3 : Mk 62 w1 r y O p n S.C S.D := h3.mm
          have x0 := h3.b0
          have x18 := q18 h3 rfl
          have x19 := q19 h3 rfl
          have x20 := q20 h3 rfl
          have x22 := h3.b22
          go_quiet ((go_at_call 63; with_reducible exact blin_q T 64 hm3 HI.out t0 t1 (by omega) (by omega)))
          have h4 : Bx (w1.drewN nq) m r y O p n V { S with kz := false, kd := true } := h3.drewN nq
          have C4 : CB m O V V w (w1.drewN nq) := C3.trans (CB.drewN m O V w1 nq)
          clear x0 x18 x19 x20 x22 h3 hm3
          generalize (w1.drewN nq) = w2 at h4 C4 ⊢
          have x18 := q18 h4 rfl
          have x20 := q20 h4 rfl
          have h5 : Bx w2.drew m r y O p n V { S with kz := false, kd := true } := h4.drewN 1
          have hm5 : Mk 62 w2.drew r y O p n S.C S.D := h5.mm
          have hB5 : ByAt (fun k => k = y) w2.drew (.slice (some ⟨y, Z * 64, none⟩) 64 (64 * n - Z * 64)) 64 (fun i => S.D (Z * 64 + i)) := hm5.part (Z * 64) 64 (64 * n - Z * 64) (by have := HZN.out; omega) (by have := HZN.out; omega)
          have v0 : w2.drew.cell? ⟨m, 0, none⟩ = some (.pointer (some ⟨r, 0, none⟩)) := h5.b0
          have v19 : w2.drew.cell? ⟨m, 19, none⟩ = some (.int .u32 T) := q19 h5 rfl
          have v22 : w2.drew.cell? ⟨m, 22, none⟩ = some (.slice (some ⟨y, 0, none⟩) (64 * n) (64 * n)) := h5.b22
          go_wp2_with fail
          go_region_held3 (fun w' => w'.cell? ⟨m, 0, none⟩ = some (.pointer (some ⟨r, 0, none⟩)) ∧ w'.cell? ⟨m, 19, none⟩ = some (.int .u32 T) ∧ w'.cell? ⟨m, 22, none⟩ = some (.slice (some ⟨y, 0, none⟩) (64 * n) (64 * n))) (first | with_reducible exact ⟨v0, v19, v22⟩ | with_reducible exact ⟨y0, y19, y22⟩)
            (first
              | (go_at_call 85; (with_reducible refine (lput_any (w := w2.drew) T _ 64 (fun i => S.D (Z * 64 + i)) hm5 hB5 t0 t1 (by omega)).mono ?_); rintro e w7 ⟨rfl, hm7, hF7⟩; have h7 := h5.mem hm7 hF7; have y0 := h7.b0; have y19 := q19 h7 rfl; have y22 := h7.b22))
          go_wp2
          refine bodyPost_ret (results_none rfl _ _ _) rfl ?_
          exact ⟨rfl, V, by rw [HF.out, ← HU.out]; exact h7, (C4.trans (CB.drewN m O V w2 1)).trans (CB.of_mem hF7)⟩
        · have HF : Hid (fiK p n S = { S with kz := false, kd := true, D := putC S.D (Z * 64) 64 (fun i => S.C (T.toNat + i)) }) := by show _ = _; unfold fiK; rw [HOK]; show ({ doK S with kz := false, kd := true } : BS) = _; rw [dk_write (by rw [hC]; omega)]; unfold wtK; rw [hT, hZ]; rfl
          clear HOK HOKK hi hcc z0 z1 hZ hT hC
          go_enter Tryz.func80, Tryz.ntmps80
          go_wp2_with fail
          rw [hs2.out, hs3.out]
          generalize w.setCell ⟨m, 21, none⟩ (.int .u32 s3) = w1 at H3 C3 ⊢
          have h3 := H3.out
          have hm3 : Mk 62 w1 r y O p n S.C S.D := h3.mm
          have x0 := h3.b0
          have x18 := q18 h3 rfl
          have x19 := q19 h3 rfl
          have x20 := q20 h3 rfl
          have x22 := h3.b22
          go_quiet ((go_at_call 63; with_reducible exact blin_q T 64 hm3 HI.out t0 t1 (by omega) (by omega)))
          have h4 : Bx (w1.drewN nq) m r y O p n V { S with kz := false, kd := true } := h3.drewN nq
          have C4 : CB m O V V w (w1.drewN nq) := C3.trans (CB.drewN m O V w1 nq)
          clear x0 x18 x19 x20 x22 h3 hm3
          generalize (w1.drewN nq) = w2 at h4 C4 ⊢
          have x18 := q18 h4 rfl
          have x20 := q20 h4 rfl
          have h5 : Bx w2.drew m r y O p n V { S with kz := false, kd := true } := h4.drewN 1
          have hm5 : Mk 62 w2.drew r y O p n S.C S.D := h5.mm
          have v0 : w2.drew.cell? ⟨m, 0, none⟩ = some (.pointer (some ⟨r, 0, none⟩)) := h5.b0
          have v19 : w2.drew.cell? ⟨m, 19, none⟩ = some (.int .u32 T) := q19 h5 rfl
          go_wp2_with fail
          go_region_held3 (fun w' => w'.cell? ⟨m, 0, none⟩ = some (.pointer (some ⟨r, 0, none⟩)) ∧ w'.cell? ⟨m, 19, none⟩ = some (.int .u32 T)) (first | with_reducible exact ⟨v0, v19⟩ | with_reducible exact ⟨y0, y19⟩)
            (first
              | (go_at_call 84; (with_reducible refine (lbytes_any (w := w2.drew) T 64 hm5 t0 t1 (by omega) (by omega)).mono ?_); rintro e w7 ⟨v, rfl, hB7, hF7⟩; have h7 := h5.no hF7; have y0 := h7.b0; have y19 := q19 h7 rfl))
          rw [hcn.out] at hB7
          have C7 : CB m O V V w w7 := (C4.trans (CB.drewN m O V w2 1)).trans (CB.of_no hF7)
          have hr7 := h7.mm.row
          have z22 := h7.b22
          obtain ⟨sp, cp, rfl, hcell⟩ := hB7.one
          have HCB := Lib.hid (fun j (hj : j < 64) => hB7.bounds j hj)
          obtain ⟨ad, rfl, hcell2⟩ := hcell (by omega)
          have HCE := Lib.hid hcell2
          have hz9 : Z * 64 + 64 ≤ 64 * n := by have := HZN.out; omega
          clear hB7 y0 y19 hcell hcell2
          go_wp2_with (with_reducible refine wpList_copy_row rfl (.tmp 109) (.tmp 110) 24 24 rfl 5 Tryz.underlying24 size_u8 _ _ _ _ _ _ rfl rfl y (Z * 64) (64 * n) 5 _ hr7 64 ?hmin2 (fun i => .int .u8 (S.C (T.toNat + i))) ?hpos2 (by have := HZN.out; omega) (fun _ => rfl) ?_)
          case hmin2 => exact (Nat.min_eq_left (by omega)).symm
          case hpos2 => first | (intro _; exact ⟨rfl, _, rfl, HCE.out⟩) | exact fun _ => HCE.out | exact HCE.out
          intro w8 hr8 hf8
          obtain ⟨hk8, hf9⟩ := h7.mm.setRow (f := fun i => S.C (T.toNat + i)) hr8 hf8 HCB.out
          have h8 := h7.mem hk8 hf9
          go_wp2
          go_end0
          exact ⟨rfl, V, by rw [HF.out]; exact h8, C7.trans (CB.of_mem hf9)⟩
    · have HOK : okX p n S = false := by rw [HOKK, decide_eq_false (fun e => hc (.inl e)), decide_eq_false (fun e => hc (.inr e))]; exact Bool.and_false _
      have HF : Hid (fiK p n S = { S with kz := false, kd := true, ke := true }) := by show _ = _; unfold fiK; rw [HOK]
      have hb1 : (c == 1) = false := beq_false_of_ne (fun e => hc (.inl e))
      have hb2 : (c == 2) = false := beq_false_of_ne (fun e => hc (.inr e))
      have hc1 : (c != 1) = true := bne_iff_ne.2 (fun e => hc (.inl e))
      have hc2 : (c != 2) = true := bne_iff_ne.2 (fun e => hc (.inr e))
      clear HOK HOKK hc z0 z1 hZ hT hC
      go_enter Tryz.func80, Tryz.ntmps80
      go_wp2_with fail
      rw [hs2.out, hs3.out]
      generalize w.setCell ⟨m, 21, none⟩ (.int .u32 s3) = w1 at H3 C3 ⊢
      have h3 := H3.out
      have hm3 : Mk 62 w1 r y O p n S.C S.D := h3.mm
      have x0 := h3.b0
      have x18 := q18 h3 rfl
      have x19 := q19 h3 rfl
      have x20 := q20 h3 rfl
      have x22 := h3.b22
      go_quiet (fail)
      have H4 := Lib.hid (h3.drewN nq)
      have k21 : (w1.drewN nq).cell? ⟨m, 21, none⟩ = some (.int .u32 s3) := by rw [E3.out]; exact H4.out.b21
      have f21 := H4.out.wb.st.frozen 21
      obtain ⟨s5, hs5⟩ : ∃ s5, Hid (bits .or .u32 s3 4 = s5) := ⟨_, Lib.hid rfl⟩
      have H5 : Hid (Bx ((w1.drewN nq).setCell ⟨m, 21, none⟩ (.int .u32 s5)) m r y O p n V { S with kz := false, kd := true, ke := true }) := H4.out.setKs s5 false true true (by rw [← hs5.out, E3.out]; exact sw_or4 _ _ _)
      go_wp2
      rw [hs5.out]
      refine bodyPost_ret (results_none rfl _ _ _) rfl ?_
      exact ⟨rfl, V, by rw [HF.out]; exact H5.out, (C3.trans (CB.drewN m O V w1 nq)).trans (CB.set m O V _ 21 _)⟩
  · have hzI : decide ((n : Int) ≤ (Z : Int)) = true := decide_eq_true (by omega)
    have hzN : decide (n ≤ Z) = true := decide_eq_true (by omega)
    have HOK : okX p n S = false := by rw [HOKK, decide_eq_false hzn]; rfl
    have HF : Hid (fiK p n S = { S with kz := false, kd := true, ke := true }) := by show _ = _; unfold fiK; rw [HOK]
    clear HOK HOKK z0 z1 hZ hT hC
    go_enter Tryz.func80, Tryz.ntmps80
    go_wp2_with fail
    rw [hs2.out, hs3.out]
    generalize w.setCell ⟨m, 21, none⟩ (.int .u32 s3) = w1 at H3 C3 ⊢
    have h3 := H3.out
    have hm3 : Mk 62 w1 r y O p n S.C S.D := h3.mm
    have x0 := h3.b0
    have x18 := q18 h3 rfl
    have x19 := q19 h3 rfl
    have x20 := q20 h3 rfl
    have x22 := h3.b22
    go_quiet (fail)
    have H4 := Lib.hid (h3.drewN nq)
    have k21 : (w1.drewN nq).cell? ⟨m, 21, none⟩ = some (.int .u32 s3) := by rw [E3.out]; exact H4.out.b21
    have f21 := H4.out.wb.st.frozen 21
    obtain ⟨s5, hs5⟩ : ∃ s5, Hid (bits .or .u32 s3 4 = s5) := ⟨_, Lib.hid rfl⟩
    have H5 : Hid (Bx ((w1.drewN nq).setCell ⟨m, 21, none⟩ (.int .u32 s5)) m r y O p n V { S with kz := false, kd := true, ke := true }) := H4.out.setKs s5 false true true (by rw [← hs5.out, E3.out]; exact sw_or4 _ _ _)
    go_wp2
    rw [hs5.out]
    refine bodyPost_ret (results_none rfl _ _ _) rfl ?_
    exact ⟨rfl, V, by rw [HF.out]; exact H5.out, (C3.trans (CB.drewN m O V w1 nq)).trans (CB.set m O V _ 21 _)⟩
end
end Go.Proofs.YtkfedihaldpgmaaGreat
