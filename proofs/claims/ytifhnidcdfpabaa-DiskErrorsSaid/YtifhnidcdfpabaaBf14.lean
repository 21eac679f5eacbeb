/-
  Chapter 14: the document's bus as far as a disk reaches: sector, B1; Take of its event.
-/
import Derived.Test.YtifhnidcdfpabaaBe14
namespace Go.Proofs.Ytifhnidcdfpabaa
open Go.RowKit
set_option linter.unusedVariables false
set_option linter.unusedSimpArgs false
section
variable {C : Nat → Value} {w w' : World} {m r y : Nat} {O : Nat → Prop} {p n : Nat} {u u2 : Value} {S S2 : DS}
theorem lin_q {k : Nat} {b : Bool} (a c : Int) (hm : Mk 81 w r y O p n S.C S.D) (hb : inB p a c = b) (h0 : 0 ≤ a) (h1 : a < 4294967296) (n0 : 0 ≤ c) (n1 : c ≤ 4294967296) :
    Calls Try.prog 44 #[.pointer (some ⟨r, 0, none⟩), .int .u32 a, .int .i64 c] (w.drewN k) fun e w' => e = .returned (.bool b) ∧ ∃ k, w' = w.drewN k :=
  (lin_any a c (hm.drewN k) h0 h1 (by omega) (by omega)).mono fun _ _ h => ⟨by rw [h.1, hb], _, h.2.symm⟩
theorem slice_c (y Z n : Nat) (h : Z < n) (hn : n ≤ 64) : ∀ w, (Instr.slice 28 (.slice (some ⟨y, 0, none⟩) (64 * n) (64 * n)) (some (.int .i64 ((Z : Int) * 64))) (some (.int .i64 (IntKind.i64.wrap ((Z : Int) * 64 + 64)))) none).run Try.prog w = .ok (.slice (some ⟨y, Z * 64, none⟩) 64 (64 * n - Z * 64)) w := by
  intro w
  have e : IntKind.i64.wrap ((Z : Int) * 64 + 64) = (Z * 64 + 64 : Nat) := by rw [IntKind.wrap_i64]; omega
  rw [e, show (Z : Int) * 64 = (Z * 64 : Nat) by omega, run_slice_lh (ht := und_u8) (h0 := by omega) (h1 := by omega) (h2 := by omega), size1_u8]
  show Result.ok (sliced (some ⟨y, 0, none⟩) (((Z * 64 : Nat) : Int).toNat) (((Z * 64 + 64 : Nat) : Int).toNat) (64 * n) 1) w = _
  unfold sliced
  rw [if_neg (by omega), Int.toNat_natCast, Int.toNat_natCast]
  show Result.ok (Value.slice (some ((⟨y, 0, none⟩ : Addr).add (Z * 64 * 1))) (Z * 64 + 64 - Z * 64) (64 * n - Z * 64)) w = _
  rw [add_none, Nat.mul_one, Nat.zero_add, Nat.add_sub_cancel_left]
theorem slice_d (y Z n : Nat) (h : Z < n) (hn : n ≤ 64) : ∀ w, (Instr.slice 28 (.slice (some ⟨y, 0, none⟩) (64 * n) (64 * n)) (some (.int .i64 ((Z : Int) * 64))) none none).run Try.prog w = .ok (.slice (some ⟨y, Z * 64, none⟩) (64 * n - Z * 64) (64 * n - Z * 64)) w := by
  intro w
  rw [show (Z : Int) * 64 = (Z * 64 : Nat) by omega, run_slice_l (ht := und_u8) (h0 := by omega) (h1 := by omega), size1_u8]
  show Result.ok (sliced (some ⟨y, 0, none⟩) (((Z * 64 : Nat) : Int).toNat) (64 * n) (64 * n) 1) w = _
  unfold sliced
  rw [if_neg (by omega), Int.toNat_natCast]
  show Result.ok (Value.slice (some ((⟨y, 0, none⟩ : Addr).add (Z * 64 * 1))) (64 * n - Z * 64) (64 * n - Z * 64)) w = _
  rw [add_none, Nat.mul_one, Nat.zero_add]
theorem wrap_n (n : Nat) (hn : n ≤ 64) : IntKind.u32.wrap (IntKind.i64.wrap ((((64 * n : Nat)) : Int).tdiv 64)) = n := by
  rw [Int.tdiv_eq_ediv_of_nonneg (by omega), IntKind.wrap_i64, IntKind.wrap_u32]
  omega
set_option maxRecDepth 100000 in
set_option maxHeartbeats 2000000 in
theorem rsector_any (h : Bu C w m r y O p n u S) (hn : n ≤ 64) (z0 : 0 ≤ S.z) (z1 : S.z < 4294967296) (t0 : 0 ≤ S.t) (t1 : S.t < 4294967296) :
    Calls Try.prog 42 #[.pointer (some ⟨m, 0, none⟩)] w (RetU (.tuple #[]) C w m r y O p n u (fiD p n S)) := by
  have k6 := h.b21
  have f6 := h.wb.st.frozen 21
  obtain ⟨s, hs⟩ : ∃ s, sw S.bz S.dn S.er = s := ⟨_, rfl⟩
  rw [hs] at k6
  obtain ⟨s2, hs2⟩ : ∃ s2, Hid (bits .andNot .u32 s 1 = s2) := ⟨_, Lib.hid rfl⟩
  obtain ⟨s3, hs3⟩ : ∃ s3, Hid (bits .or .u32 s2 2 = s3) := ⟨_, Lib.hid rfl⟩
  have e2 : s2 = sw false S.dn S.er := by rw [← hs2.out, ← hs]; exact sw_not1 _ _ _
  have e3 : s3 = sw false true S.er := by rw [← hs3.out, e2]; exact sw_or2 _ _ _
  have H3 : Hid (Bu C (w.setCell ⟨m, 21, none⟩ (.int .u32 s3)) m r y O p n u { S with bz := false, dn := true }) := h.setS s3 false true S.er e3
  have C3 : CD m m O u u w (w.setCell ⟨m, 21, none⟩ (.int .u32 s3)) := CD.set m m O u w 21 _
  obtain ⟨Z, hZ⟩ : ∃ Z : Nat, S.z = Z := ⟨S.z.toNat, by omega⟩
  obtain ⟨T, hT⟩ : ∃ T, S.t = T := ⟨_, rfl⟩
  obtain ⟨c, hC⟩ : ∃ c, S.c = c := ⟨_, rfl⟩
  have q18 : ∀ {w1 : World} {u1 : Value} {S1 : DS}, Bu C w1 m r y O p n u1 S1 → S1.z = S.z → w1.cell? ⟨m, 18, none⟩ = some (.int .u32 Z) := fun h1 e1 => by rw [← hZ, ← e1]; exact h1.b18
  have q19 : ∀ {w1 : World} {u1 : Value} {S1 : DS}, Bu C w1 m r y O p n u1 S1 → S1.t = S.t → w1.cell? ⟨m, 19, none⟩ = some (.int .u32 T) := fun h1 e1 => by rw [← hT, ← e1]; exact h1.b19
  have q20 : ∀ {w1 : World} {u1 : Value} {S1 : DS}, Bu C w1 m r y O p n u1 S1 → S1.c = S.c → w1.cell? ⟨m, 20, none⟩ = some (.int .u32 c) := fun h1 e1 => by rw [← hC, ← e1]; exact h1.b20
  have hwn := wrap_n n hn
  have E3 := Lib.hid e3
  have HOKK : okK p n S = (decide (Z < n) && ((decide (c = 1) || decide (c = 2)) && inB p T 64)) := by
    unfold okK
    rw [hZ, hC, hT]
    congr 1
    rw [decide_eq_decide]
    omega
  rw [hT] at t0 t1
  clear hs e2 e3
  by_cases hzn : Z < n
  · have hzI : decide ((n : Int) ≤ (Z : Int)) = false := decide_eq_false (by omega)
    have hzN : decide (n ≤ Z) = false := decide_eq_false (by omega)
    by_cases hc : c = 1 ∨ c = 2
    · have hcc : (decide (c = 1) || decide (c = 2)) = true := by
        rcases hc with e | e
        · rw [decide_eq_true e]; rfl
        · rw [decide_eq_true e]; exact Bool.or_true _
      cases hi : inB p T 64
      · have HOK : okK p n S = false := by rw [HOKK, hi, Bool.and_false, Bool.and_false]
        have HF : Hid (fiD p n S = { S with bz := false, dn := true, er := true }) := by show _ = _; unfold fiD; rw [HOK]
        have HI := Lib.hid hi
        clear HOK HOKK hi hcc z0 z1 hZ hT hC
        rcases hc with rfl | rfl
        all_goals
          go_enter Try.func42, Try.ntmps42
          go_wp2_with fail
          rw [hs2.out, hs3.out]
          generalize w.setCell ⟨m, 21, none⟩ (.int .u32 s3) = w1 at H3 C3 ⊢
          have h3 := H3.out
          have hm3 : Mk 81 w1 r y O p n S.C S.D := h3.mm
          have x0 := h3.b0
          have x18 := q18 h3 rfl
          have x19 := q19 h3 rfl
          have x20 := q20 h3 rfl
          have x22 := h3.b22
          go_quiet ((go_at_call 44; with_reducible exact lin_q (S := S) T 64 hm3 HI.out t0 t1 (by omega) (by omega)))
          have H4 := Lib.hid (h3.drewN nq)
          have k21 : (w1.drewN nq).cell? ⟨m, 21, none⟩ = some (.int .u32 s3) := by rw [E3.out]; exact H4.out.b21
          have f21 := H4.out.wb.st.frozen 21
          obtain ⟨s5, hs5⟩ : ∃ s5, Hid (bits .or .u32 s3 4 = s5) := ⟨_, Lib.hid rfl⟩
          have H5 : Hid (Bu C ((w1.drewN nq).setCell ⟨m, 21, none⟩ (.int .u32 s5)) m r y O p n u { S with bz := false, dn := true, er := true }) := H4.out.setS s5 false true true (by rw [← hs5.out, E3.out]; exact sw_or4 _ _ _)
          go_wp2
          rw [hs5.out]
          refine bodyPost_ret (results_none rfl _ _ _) rfl ?_
          exact ⟨rfl, u, by rw [HF.out]; exact H5.out, (C3.trans (CD.drewN m m O u w1 nq)).trans (CD.set m m O u _ 21 _)⟩
      · have HOK : okK p n S = true := by rw [HOKK, hi, hcc, decide_eq_true hzn]; rfl
        have HI := Lib.hid hi
        have HU : Hid (uC p S.C T 64 (fun i => S.D (Z * 64 + i)) = putC S.C T.toNat 64 (fun i => S.D (Z * 64 + i))) := by show _ = _; have h2 : inB p T ((64 : Nat) : Int) = true := hi; unfold uC; rw [h2]
        have hcn : Hid (cnt p T 64 = 64) := by show _ = _; unfold cnt; rw [hi]; rfl
        have hsc := slice_c y Z n hzn hn
        have hsd := slice_d y Z n hzn hn
        have HZN := Lib.hid hzn
        rcases hc with rfl | rfl
        · have HF : Hid (fiD p n S = { S with bz := false, dn := true, C := putC S.C T.toNat 64 (fun i => S.D (Z * 64 + i)) }) := by show _ = _; unfold fiD; rw [HOK]; show ({ doD S with bz := false, dn := true } : DS) = _; rw [do_read hC]; unfold rdC; rw [hT, hZ]; rfl
          clear HOK HOKK hi hcc z0 z1 hZ hT hC
          go_enter Try.func42, Try.ntmps42
          go_wp2_with fail
          rw [hs2.out, hs3.out]
          generalize w.setCell ⟨m, 21, none⟩ (.int .u32 s3) = w1 at H3 C3 ⊢
          have h3 := H3.out
          have hm3 : Mk 81 w1 r y O p n S.C S.D := h3.mm
          have x0 := h3.b0
          have x18 := q18 h3 rfl
          have x19 := q19 h3 rfl
          have x20 := q20 h3 rfl
          have x22 := h3.b22
          go_quiet ((go_at_call 44; with_reducible exact lin_q (S := S) T 64 hm3 HI.out t0 t1 (by omega) (by omega)))
          have h4 : Bu C (w1.drewN nq) m r y O p n u { S with bz := false, dn := true } := h3.drewN nq
          have C4 : CD m m O u u w (w1.drewN nq) := C3.trans (CD.drewN m m O u w1 nq)
          clear x0 x18 x19 x20 x22 h3 hm3
          generalize (w1.drewN nq) = w2 at h4 C4 ⊢
          have x18 := q18 h4 rfl
          have x20 := q20 h4 rfl
          have h5 : Bu C w2.drew m r y O p n u { S with bz := false, dn := true } := h4.drewN 1
          have hm5 : Mk 81 w2.drew r y O p n S.C S.D := h5.mm
          have hB5 : ByAt (fun k => k = y) w2.drew (.slice (some ⟨y, Z * 64, none⟩) 64 (64 * n - Z * 64)) 64 (fun i => S.D (Z * 64 + i)) := hm5.part (Z * 64) 64 (64 * n - Z * 64) (by have := HZN.out; omega) (by have := HZN.out; omega)
          have v0 : w2.drew.cell? ⟨m, 0, none⟩ = some (.pointer (some ⟨r, 0, none⟩)) := h5.b0
          have v19 : w2.drew.cell? ⟨m, 19, none⟩ = some (.int .u32 T) := q19 h5 rfl
          have v22 : w2.drew.cell? ⟨m, 22, none⟩ = some (.slice (some ⟨y, 0, none⟩) (64 * n) (64 * n)) := h5.b22
          go_wp2_with fail
          go_region_held3 (fun w' => w'.cell? ⟨m, 0, none⟩ = some (.pointer (some ⟨r, 0, none⟩)) ∧ w'.cell? ⟨m, 19, none⟩ = some (.int .u32 T) ∧ w'.cell? ⟨m, 22, none⟩ = some (.slice (some ⟨y, 0, none⟩) (64 * n) (64 * n))) (first | with_reducible exact ⟨v0, v19, v22⟩ | with_reducible exact ⟨y0, y19, y22⟩)
            (first
              | (go_at_call 54; (with_reducible refine (lput_any (w := w2.drew) T _ 64 (fun i => S.D (Z * 64 + i)) hm5 hB5 t0 t1 (by omega)).mono ?_); rintro e w7 ⟨rfl, hm7, hF7⟩; have h7 := h5.mem hm7 hF7; have y0 := h7.b0; have y19 := q19 h7 rfl; have y22 := h7.b22))
          go_wp2
          refine bodyPost_ret (results_none rfl _ _ _) rfl ?_
          exact ⟨rfl, u, by rw [HF.out, ← HU.out]; exact h7, (C4.trans (CD.drewN m m O u w2 1)).trans (CD.of_mem hF7)⟩
        · have HF : Hid (fiD p n S = { S with bz := false, dn := true, D := putC S.D (Z * 64) 64 (fun i => S.C (T.toNat + i)) }) := by show _ = _; unfold fiD; rw [HOK]; show ({ doD S with bz := false, dn := true } : DS) = _; rw [do_write (by rw [hC]; omega)]; unfold wtD; rw [hT, hZ]; rfl
          clear HOK HOKK hi hcc z0 z1 hZ hT hC
          go_enter Try.func42, Try.ntmps42
          go_wp2_with fail
          rw [hs2.out, hs3.out]
          generalize w.setCell ⟨m, 21, none⟩ (.int .u32 s3) = w1 at H3 C3 ⊢
          have h3 := H3.out
          have hm3 : Mk 81 w1 r y O p n S.C S.D := h3.mm
          have x0 := h3.b0
          have x18 := q18 h3 rfl
          have x19 := q19 h3 rfl
          have x20 := q20 h3 rfl
          have x22 := h3.b22
          go_quiet ((go_at_call 44; with_reducible exact lin_q (S := S) T 64 hm3 HI.out t0 t1 (by omega) (by omega)))
          have h4 : Bu C (w1.drewN nq) m r y O p n u { S with bz := false, dn := true } := h3.drewN nq
          have C4 : CD m m O u u w (w1.drewN nq) := C3.trans (CD.drewN m m O u w1 nq)
          clear x0 x18 x19 x20 x22 h3 hm3
          generalize (w1.drewN nq) = w2 at h4 C4 ⊢
          have x18 := q18 h4 rfl
          have x20 := q20 h4 rfl
          have h5 : Bu C w2.drew m r y O p n u { S with bz := false, dn := true } := h4.drewN 1
          have hm5 : Mk 81 w2.drew r y O p n S.C S.D := h5.mm
          have v0 : w2.drew.cell? ⟨m, 0, none⟩ = some (.pointer (some ⟨r, 0, none⟩)) := h5.b0
          have v19 : w2.drew.cell? ⟨m, 19, none⟩ = some (.int .u32 T) := q19 h5 rfl
          go_wp2_with fail
          go_region_held3 (fun w' => w'.cell? ⟨m, 0, none⟩ = some (.pointer (some ⟨r, 0, none⟩)) ∧ w'.cell? ⟨m, 19, none⟩ = some (.int .u32 T)) (first | with_reducible exact ⟨v0, v19⟩ | with_reducible exact ⟨y0, y19⟩)
            (first
              | (go_at_call 53; (with_reducible refine (lbytes_any (w := w2.drew) T 64 hm5 t0 t1 (by omega) (by omega)).mono ?_); rintro e w7 ⟨v, rfl, hB7, hF7⟩; have h7 := h5.no hF7; have y0 := h7.b0; have y19 := q19 h7 rfl))
          rw [hcn.out] at hB7
          have C7 : CD m m O u u w w7 := (C4.trans (CD.drewN m m O u w2 1)).trans (CD.of_no hF7)
          have hr7 := h7.mm.row
          have z22 := h7.b22
          obtain ⟨sp, cp, rfl, hcell⟩ := hB7.one
          have HCB := Lib.hid (fun j (hj : j < 64) => hB7.bounds j hj)
          obtain ⟨ad, rfl, hcell2⟩ := hcell (by omega)
          have HCE := Lib.hid hcell2
          have hz9 : Z * 64 + 64 ≤ 64 * n := by have := HZN.out; omega
          clear hB7 y0 y19 hcell hcell2
          go_wp2_with (with_reducible refine wpList_copy_row rfl (.tmp 109) (.tmp 110) 28 28 rfl 5 Try.underlying28 size_u8 _ _ _ _ _ _ rfl rfl y (Z * 64) (64 * n) 5 _ hr7 64 ?hmin2 (fun i => .int .u8 (S.C (T.toNat + i))) ?hpos2 (by have := HZN.out; omega) (fun _ => rfl) ?_)
          case hmin2 => exact (Nat.min_eq_left (by omega)).symm
          case hpos2 => first | (intro _; exact ⟨rfl, _, rfl, HCE.out⟩) | exact fun _ => HCE.out | exact HCE.out
          intro w8 hr8 hf8
          obtain ⟨hk8, hf9⟩ := h7.mm.setRow (f := fun i => S.C (T.toNat + i)) hr8 hf8 HCB.out
          have h8 := h7.mem hk8 hf9
          go_wp2
          go_end0
          exact ⟨rfl, u, by rw [HF.out]; exact h8, C7.trans (CD.of_mem hf9)⟩
    · have HOK : okK p n S = false := by rw [HOKK, decide_eq_false (fun e => hc (.inl e)), decide_eq_false (fun e => hc (.inr e))]; exact Bool.and_false _
      have HF : Hid (fiD p n S = { S with bz := false, dn := true, er := true }) := by show _ = _; unfold fiD; rw [HOK]
      have hb1 : (c == 1) = false := beq_false_of_ne (fun e => hc (.inl e))
      have hb2 : (c == 2) = false := beq_false_of_ne (fun e => hc (.inr e))
      have hc1 : (c != 1) = true := bne_iff_ne.2 (fun e => hc (.inl e))
      have hc2 : (c != 2) = true := bne_iff_ne.2 (fun e => hc (.inr e))
      clear HOK HOKK hc z0 z1 hZ hT hC
      go_enter Try.func42, Try.ntmps42
      go_wp2_with fail
      rw [hs2.out, hs3.out]
      generalize w.setCell ⟨m, 21, none⟩ (.int .u32 s3) = w1 at H3 C3 ⊢
      have h3 := H3.out
      have hm3 : Mk 81 w1 r y O p n S.C S.D := h3.mm
      have x0 := h3.b0
      have x18 := q18 h3 rfl
      have x19 := q19 h3 rfl
      have x20 := q20 h3 rfl
      have x22 := h3.b22
      go_quiet (fail)
      have H4 := Lib.hid (h3.drewN nq)
      have k21 : (w1.drewN nq).cell? ⟨m, 21, none⟩ = some (.int .u32 s3) := by rw [E3.out]; exact H4.out.b21
      have f21 := H4.out.wb.st.frozen 21
      obtain ⟨s5, hs5⟩ : ∃ s5, Hid (bits .or .u32 s3 4 = s5) := ⟨_, Lib.hid rfl⟩
      have H5 : Hid (Bu C ((w1.drewN nq).setCell ⟨m, 21, none⟩ (.int .u32 s5)) m r y O p n u { S with bz := false, dn := true, er := true }) := H4.out.setS s5 false true true (by rw [← hs5.out, E3.out]; exact sw_or4 _ _ _)
      go_wp2
      rw [hs5.out]
      refine bodyPost_ret (results_none rfl _ _ _) rfl ?_
      exact ⟨rfl, u, by rw [HF.out]; exact H5.out, (C3.trans (CD.drewN m m O u w1 nq)).trans (CD.set m m O u _ 21 _)⟩
  · have hzI : decide ((n : Int) ≤ (Z : Int)) = true := decide_eq_true (by omega)
    have hzN : decide (n ≤ Z) = true := decide_eq_true (by omega)
    have HOK : okK p n S = false := by rw [HOKK, decide_eq_false hzn]; rfl
    have HF : Hid (fiD p n S = { S with bz := false, dn := true, er := true }) := by show _ = _; unfold fiD; rw [HOK]
    clear HOK HOKK z0 z1 hZ hT hC
    go_enter Try.func42, Try.ntmps42
    go_wp2_with fail
    rw [hs2.out, hs3.out]
    generalize w.setCell ⟨m, 21, none⟩ (.int .u32 s3) = w1 at H3 C3 ⊢
    have h3 := H3.out
    have hm3 : Mk 81 w1 r y O p n S.C S.D := h3.mm
    have x0 := h3.b0
    have x18 := q18 h3 rfl
    have x19 := q19 h3 rfl
    have x20 := q20 h3 rfl
    have x22 := h3.b22
    go_quiet (fail)
    have H4 := Lib.hid (h3.drewN nq)
    have k21 : (w1.drewN nq).cell? ⟨m, 21, none⟩ = some (.int .u32 s3) := by rw [E3.out]; exact H4.out.b21
    have f21 := H4.out.wb.st.frozen 21
    obtain ⟨s5, hs5⟩ : ∃ s5, Hid (bits .or .u32 s3 4 = s5) := ⟨_, Lib.hid rfl⟩
    have H5 : Hid (Bu C ((w1.drewN nq).setCell ⟨m, 21, none⟩ (.int .u32 s5)) m r y O p n u { S with bz := false, dn := true, er := true }) := H4.out.setS s5 false true true (by rw [← hs5.out, E3.out]; exact sw_or4 _ _ _)
    go_wp2
    rw [hs5.out]
    refine bodyPost_ret (results_none rfl _ _ _) rfl ?_
    exact ⟨rfl, u, by rw [HF.out]; exact H5.out, (C3.trans (CD.drewN m m O u w1 nq)).trans (CD.set m m O u _ 21 _)⟩
end
end Go.Proofs.Ytifhnidcdfpabaa
