/-
  Chapter 13: the document's bus as far as a mover reaches: move, B1; Take of its event.
-/
import Derived.Test.YtamaonkepfkgnaaBe13
namespace Go.Proofs.Ytamaonkepfkgnaa
open Go.RowKit
set_option linter.unusedVariables false
set_option linter.unusedSimpArgs false
section
variable {C : Nat → Value} {w w' : World} {m r : Nat} {O : Nat → Prop} {p : Nat} {u u2 : Value} {S S2 : DS}
theorem nin_q {n : Nat} {b : Bool} (a c : Int) (hm : Ra 80 w r O p S.C) (hb : inB p a c = b) (h0 : 0 ≤ a) (h1 : a < 4294967296) (n0 : 0 ≤ c) (n1 : c ≤ 4294967296) :
    Calls Try.prog 43 #[.pointer (some ⟨r, 0, none⟩), .int .u32 a, .int .i64 c] (w.drewN n) fun e w' => e = .returned (.bool b) ∧ ∃ k, w' = w.drewN k :=
  (nin_any a c (hm.drewN n) h0 h1 (by omega) (by omega)).mono fun _ _ h => ⟨by rw [h.1, hb], _, h.2.symm⟩
set_option maxRecDepth 100000 in
set_option maxHeartbeats 2000000 in
theorem rmove_any (h : Bu C w m r O p u S) (f0 : 0 ≤ S.f) (f1 : S.f < 4294967296) (t0 : 0 ≤ S.t) (t1 : S.t < 4294967296) (c0 : 0 ≤ S.c) (c1 : S.c < 4294967296) :
    Calls Try.prog 40 #[.pointer (some ⟨m, 0, none⟩)] w (RetU (.tuple #[]) C w m r O p u (fiD p S)) := by
  have k6 := h.b17
  have f6 := h.wb.st.frozen 17
  obtain ⟨s, hs⟩ : ∃ s, sw S.bz S.dn S.er = s := ⟨_, rfl⟩
  rw [hs] at k6
  obtain ⟨s2, hs2⟩ : ∃ s2, Hid (bits .andNot .u32 s 1 = s2) := ⟨_, Lib.hid rfl⟩
  obtain ⟨s3, hs3⟩ : ∃ s3, Hid (bits .or .u32 s2 2 = s3) := ⟨_, Lib.hid rfl⟩
  have e2 : s2 = sw false S.dn S.er := by rw [← hs2.out, ← hs]; exact sw_not1 _ _ _
  have e3 : s3 = sw false true S.er := by rw [← hs3.out, e2]; exact sw_or2 _ _ _
  have H3 : Hid (Bu C (w.setCell ⟨m, 17, none⟩ (.int .u32 s3)) m r O p u { S with bz := false, dn := true }) := h.setS s3 false true S.er e3
  have C3 : CD m m O u u w (w.setCell ⟨m, 17, none⟩ (.int .u32 s3)) := CD.set m m O u w 17 _
  obtain ⟨F, hF⟩ : ∃ F, S.f = F := ⟨_, rfl⟩
  obtain ⟨T, hT⟩ : ∃ T, S.t = T := ⟨_, rfl⟩
  obtain ⟨c, hC⟩ : ∃ c : Nat, S.c = c := ⟨S.c.toNat, by omega⟩
  have HB : Hid (movB p S = (decide ((c : Int) ≤ 4096) && (inB p F c && inB p T c))) := by show _ = _; unfold movB; rw [hF, hT, hC]
  have HM : Hid (movC S = putC S.C T.toNat c (fun i => S.C (F.toNat + i))) := by show _ = _; unfold movC; rw [hF, hT, hC]; rfl
  have q14 : ∀ {w1 : World} {u1 : Value} {S1 : DS}, Bu C w1 m r O p u1 S1 → S1.f = S.f → w1.cell? ⟨m, 14, none⟩ = some (.int .u32 F) := fun h1 e1 => by rw [← hF, ← e1]; exact h1.b14
  have q15 : ∀ {w1 : World} {u1 : Value} {S1 : DS}, Bu C w1 m r O p u1 S1 → S1.t = S.t → w1.cell? ⟨m, 15, none⟩ = some (.int .u32 T) := fun h1 e1 => by rw [← hT, ← e1]; exact h1.b15
  have q16 : ∀ {w1 : World} {u1 : Value} {S1 : DS}, Bu C w1 m r O p u1 S1 → S1.c = S.c → w1.cell? ⟨m, 16, none⟩ = some (.int .u32 c) := fun h1 e1 => by rw [← hC, ← e1]; exact h1.b16
  have HW : Hid (IntKind.i64.wrap (c : Int) = c) := by show _ = _; rw [IntKind.wrap_i64]; omega
  have E3 := Lib.hid e3
  rw [hF] at f0 f1
  rw [hT] at t0 t1
  rw [hC] at c1
  have HC1 := Lib.hid c1
  clear hs e2 e3 hF hT hC c0 c1
  by_cases hc : (c : Int) ≤ 4096
  · have hgb : decide ((4096 : Int) < c) = false := decide_eq_false (by omega)
    cases hi : inB p F c
    · have HF : Hid (fiD p S = { S with bz := false, dn := true, er := true }) := by show _ = _; unfold fiD; rw [HB.out, decide_eq_true hc, hi]; rfl
      have HI := Lib.hid hi
      clear hi HB HM HC1
      go_enter Try.func40, Try.ntmps40
      go_wp2_with fail
      rw [hs2.out, hs3.out]
      generalize w.setCell ⟨m, 17, none⟩ (.int .u32 s3) = w1 at H3 C3 ⊢
      have h3 := H3.out
      have hm3 : Ra 80 w1 r O p S.C := h3.mm
      have x0 := h3.b0
      have x14 := q14 h3 rfl
      have x15 := q15 h3 rfl
      have x16 := q16 h3 rfl
      go_quiet ((go_at_call 43; with_reducible exact nin_q (S := S) F c hm3 HI.out f0 f1 (by omega) (by omega)))
      have H4 := Lib.hid (h3.drewN nq)
      have k17 : (w1.drewN nq).cell? ⟨m, 17, none⟩ = some (.int .u32 s3) := by rw [E3.out]; exact H4.out.b17
      have f17 := H4.out.wb.st.frozen 17
      obtain ⟨s5, hs5⟩ : ∃ s5, Hid (bits .or .u32 s3 4 = s5) := ⟨_, Lib.hid rfl⟩
      have H5 : Hid (Bu C ((w1.drewN nq).setCell ⟨m, 17, none⟩ (.int .u32 s5)) m r O p u { S with bz := false, dn := true, er := true }) := H4.out.setS s5 false true true (by rw [← hs5.out, E3.out]; exact sw_or4 _ _ _)
      go_wp2
      rw [hs5.out]
      refine bodyPost_ret (results_none rfl _ _ _) rfl ?_
      exact ⟨rfl, u, by rw [HF.out]; exact H5.out, (C3.trans (CD.drewN m m O u w1 nq)).trans (CD.set m m O u _ 17 _)⟩
    · cases hj : inB p T c
      · have HF : Hid (fiD p S = { S with bz := false, dn := true, er := true }) := by show _ = _; unfold fiD; rw [HB.out, decide_eq_true hc, hi, hj]; rfl
        have HI := Lib.hid hi
        have HJ := Lib.hid hj
        clear hi hj HB HM HC1
        go_enter Try.func40, Try.ntmps40
        go_wp2_with fail
        rw [hs2.out, hs3.out]
        generalize w.setCell ⟨m, 17, none⟩ (.int .u32 s3) = w1 at H3 C3 ⊢
        have h3 := H3.out
        have hm3 : Ra 80 w1 r O p S.C := h3.mm
        have x0 := h3.b0
        have x14 := q14 h3 rfl
        have x15 := q15 h3 rfl
        have x16 := q16 h3 rfl
        go_quiet (first | (go_at_call 43; with_reducible exact nin_q (S := S) F c hm3 HI.out f0 f1 (by omega) (by omega)) | (go_at_call 43; with_reducible exact nin_q (S := S) T c hm3 HJ.out t0 t1 (by omega) (by omega)))
        have H4 := Lib.hid (h3.drewN nq)
        have k17 : (w1.drewN nq).cell? ⟨m, 17, none⟩ = some (.int .u32 s3) := by rw [E3.out]; exact H4.out.b17
        have f17 := H4.out.wb.st.frozen 17
        obtain ⟨s5, hs5⟩ : ∃ s5, Hid (bits .or .u32 s3 4 = s5) := ⟨_, Lib.hid rfl⟩
        have H5 : Hid (Bu C ((w1.drewN nq).setCell ⟨m, 17, none⟩ (.int .u32 s5)) m r O p u { S with bz := false, dn := true, er := true }) := H4.out.setS s5 false true true (by rw [← hs5.out, E3.out]; exact sw_or4 _ _ _)
        go_wp2
        rw [hs5.out]
        refine bodyPost_ret (results_none rfl _ _ _) rfl ?_
        exact ⟨rfl, u, by rw [HF.out]; exact H5.out, (C3.trans (CD.drewN m m O u w1 nq)).trans (CD.set m m O u _ 17 _)⟩
      · have HF : Hid (fiD p S = { S with bz := false, dn := true, C := movC S }) := by show _ = _; unfold fiD; rw [HB.out, decide_eq_true hc, hi, hj]; rfl
        have HI := Lib.hid hi
        have HJ := Lib.hid hj
        have hcn : Hid (cnt p F c = c) := by show _ = _; unfold cnt; rw [hi]; rfl
        have HU : Hid ({ S with bz := false, dn := true, C := movC S } = { S with bz := false, dn := true, C := uC p S.C T c (fun i => S.C (F.toNat + i)) }) := by
          show _ = _
          unfold uC
          rw [hj, HM.out]
        clear hi hj HB HM HC1
        go_enter Try.func40, Try.ntmps40
        go_wp2_with fail
        rw [hs2.out, hs3.out]
        generalize w.setCell ⟨m, 17, none⟩ (.int .u32 s3) = w1 at H3 C3 ⊢
        have h3 := H3.out
        have hm3 : Ra 80 w1 r O p S.C := h3.mm
        have x0 := h3.b0
        have x14 := q14 h3 rfl
        have x15 := q15 h3 rfl
        have x16 := q16 h3 rfl
        go_quiet (first | (go_at_call 43; with_reducible exact nin_q (S := S) F c hm3 HI.out f0 f1 (by omega) (by omega)) | (go_at_call 43; with_reducible exact nin_q (S := S) T c hm3 HJ.out t0 t1 (by omega) (by omega)))
        have h4 : Bu C (w1.drewN nq).drew m r O p u { S with bz := false, dn := true } := (h3.drewN nq).drewN 1
        have C4 : CD m m O u u w (w1.drewN nq).drew := (C3.trans (CD.drewN m m O u w1 nq)).trans (CD.drewN m m O u _ 1)
        clear x0 x14 x15 x16 h3 hm3
        go_wp2_with fail
        generalize (w1.drewN nq) = w2 at h4 C4 ⊢
        have hm4 : Ra 80 w2.drew r O p S.C := h4.mm
        have x0 := h4.b0
        have x14 := q14 h4 rfl
        have x16 := q16 h4 rfl
        go_region_held3 (fun w' => w'.cell? ⟨m, 0, none⟩ = some (.pointer (some ⟨r, 0, none⟩)) ∧ w'.cell? ⟨m, 14, none⟩ = some (.int .u32 F) ∧ w'.cell? ⟨m, 16, none⟩ = some (.int .u32 c)) (first | with_reducible exact ⟨x0, x14, x16⟩ | with_reducible exact ⟨y0, y14, y16⟩)
          (first
            | (go_at_call 52; rw [HW.out]; (with_reducible refine (nbytes_any (w := w2.drew) F c hm4 f0 f1 (by omega) (by omega)).mono ?_); rintro e w5 ⟨y, rfl, hB5, hF5⟩; have h5 := h4.no hF5; have y0 := h5.b0; have y14 := q14 h5 rfl; have y16 := q16 h5 rfl))
        rw [hcn.out] at hB5
        have h6 : Bu C w5.drew m r O p u { S with bz := false, dn := true } := h5.drewN 1
        have C6 : CD m m O u u w w5.drew := (C4.trans (CD.of_no hF5)).trans (CD.drewN m m O u w5 1)
        have hm6 : Ra 80 w5.drew r O p S.C := h6.mm
        have hB6 : ByAt (fun k => w2.drew.heap.size ≤ k) w5.drew y c (fun i => S.C (F.toNat + i)) := hB5.fr ((Fr.refl (fun _ => False) w5).drewN 1) (fun _ _ _ => id)
        have x0 := h6.b0
        have x15 := q15 h6 rfl
        clear hB5 h4 C4 hm4 hF5 h5
        go_wp2_with fail
        go_region_held3 (fun w' => w'.cell? ⟨m, 0, none⟩ = some (.pointer (some ⟨r, 0, none⟩)) ∧ w'.cell? ⟨m, 15, none⟩ = some (.int .u32 T)) (first | with_reducible exact ⟨x0, x15⟩ | with_reducible exact ⟨y0, y15⟩)
          (first
            | (go_at_call 53; (with_reducible refine (nput_any (w := w5.drew) T y c (fun i => S.C (F.toNat + i)) hm6 hB6 t0 t1 (by omega)).mono ?_); rintro e w7 ⟨rfl, hm7, hF7⟩; have h7 := h6.mem hm7 hF7; have y0 := h7.b0; have y15 := q15 h7 rfl))
        go_wp2
        go_end0
        exact ⟨rfl, u, by rw [HF.out, HU.out]; exact h7, C6.trans (CD.of_mem hF7)⟩
  · have HF : Hid (fiD p S = { S with bz := false, dn := true, er := true }) := by show _ = _; unfold fiD; rw [HB.out, decide_eq_false hc]; rfl
    have hgb : decide ((4096 : Int) < c) = true := decide_eq_true (by omega)
    clear hc HB HM
    go_enter Try.func40, Try.ntmps40
    go_wp2_with fail
    rw [hs2.out, hs3.out]
    generalize w.setCell ⟨m, 17, none⟩ (.int .u32 s3) = w1 at H3 C3 ⊢
    have h3 := H3.out
    have hm3 : Ra 80 w1 r O p S.C := h3.mm
    have x0 := h3.b0
    have x14 := q14 h3 rfl
    have x15 := q15 h3 rfl
    have x16 := q16 h3 rfl
    go_quiet (fail)
    have H4 := Lib.hid (h3.drewN nq)
    have k17 : (w1.drewN nq).cell? ⟨m, 17, none⟩ = some (.int .u32 s3) := by rw [E3.out]; exact H4.out.b17
    have f17 := H4.out.wb.st.frozen 17
    obtain ⟨s5, hs5⟩ : ∃ s5, Hid (bits .or .u32 s3 4 = s5) := ⟨_, Lib.hid rfl⟩
    have H5 : Hid (Bu C ((w1.drewN nq).setCell ⟨m, 17, none⟩ (.int .u32 s5)) m r O p u { S with bz := false, dn := true, er := true }) := H4.out.setS s5 false true true (by rw [← hs5.out, E3.out]; exact sw_or4 _ _ _)
    go_wp2
    rw [hs5.out]
    refine bodyPost_ret (results_none rfl _ _ _) rfl ?_
    exact ⟨rfl, u, by rw [HF.out]; exact H5.out, (C3.trans (CD.drewN m m O u w1 nq)).trans (CD.set m m O u _ 17 _)⟩
set_option maxRecDepth 100000 in
set_option maxHeartbeats 1000000 in
theorem b1_any (now sq : Int) (h : Bu C w m r O p u S) (f0 : 0 ≤ S.f) (f1 : S.f < 4294967296) (t0 : 0 ≤ S.t) (t1 : S.t < 4294967296) (c0 : 0 ≤ S.c) (c1 : S.c < 4294967296) :
    Calls Try.prog 23 #[.pointer (some ⟨m, 0, none⟩), .agg #[.int .i64 now, .int .i64 4, .int .i64 sq]] w (RetU (.tuple #[]) C w m r O p u (fiD p S)) := by
  have hB : Below w.heap.size w (w.alloc (.cells #[.int .i64 now, .int .i64 4, .int .i64 sq] 45)) := (Below.refl _ _).alloc (Nat.le_refl _) _
  have h0 := h.below hB
  have hC0 : CD m m O u u w (w.alloc (.cells #[.int .i64 now, .int .i64 4, .int .i64 sq] 45)) := CD.of_below hB
  clear hB
  go_enter Try.func23, Try.ntmps23
  go_wp2_with fail
  with_reducible refine (rmove_any h0 f0 f1 t0 t1 c0 c1).mono ?_
  rintro e w1 ⟨rfl, u1, h1, hc1⟩
  go_wp2
  go_end0
  exact ⟨rfl, u1, h1, hC0.trans hc1⟩
/-- Take of what is due -/
theorem rtake_yes {now : Int} (h : Bu C w m r O p u S) (hd : duB now S = true) :
    Calls Try.prog 22 #[.pointer (some ⟨m, 1, none⟩), .int .i64 now] w (RetU (.tuple #[.agg #[.int .i64 (tmQ S), .int .i64 4, .int .i64 (sqQ S)], .bool true]) C w m r O p u { S with q := none }) := by
  obtain ⟨hq, hle⟩ := due_cases hd
  have hl := qL_len 4 S.q
  have hL : qL 4 S.q = [⟨tmQ S, 4, sqQ S⟩] := by rw [hq]; rfl
  have hw := h.wb
  refine (rtake_any now hw (by omega)).mono ?_
  rintro e w1 ⟨rfl, v2, hw2, hc⟩
  rw [hL] at hw2 ⊢
  have hB : dueB now [⟨tmQ S, 4, sqQ S⟩] = true := decide_eq_true hle
  unfold takeV takeE
  unfold takeL at hw2
  rw [hB] at hw2 ⊢
  exact ⟨rfl, v2, h.wheel (q := none) hw2 hc, CD.of_ch hc⟩
theorem rtake_no {now : Int} (h : Bu C w m r O p u S) (hd : duB now S = false) :
    Calls Try.prog 22 #[.pointer (some ⟨m, 1, none⟩), .int .i64 now] w (RetU (.tuple #[.agg #[.int .i64 0, .int .i64 0, .int .i64 0], .bool false]) C w m r O p u S) := by
  have hl := qL_len 4 S.q
  have hB : dueB now (qL 4 S.q) = false := by rw [due_q 4 now S, hd]
  refine (rtake_any now h.wb (by omega)).mono ?_
  rintro e w1 ⟨rfl, v2, hw2, hc⟩
  unfold takeV takeE
  unfold takeL at hw2
  rw [hB] at hw2 ⊢
  exact ⟨rfl, v2, h.wheel (q := S.q) (a := S.a) hw2 hc, CD.of_ch hc⟩
end
end Go.Proofs.Ytamaonkepfkgnaa
