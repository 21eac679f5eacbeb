/-
  Chapter 15: any calls, against the document's bus (function 'play'): the walk.
-/
import Derived.Test.YtkfedihaldpgmaaGreatPl15
import Derived.BigQuiet
namespace Go.Proofs.YtkfedihaldpgmaaGreat
open Go.RowKit
set_option linter.unusedVariables false
set_option linter.unusedSimpArgs false

section
variable {w : World} {g b m t p : Nat} {C : Nat → Int} {M D : Nat → Bool}
set_option maxRecDepth 100000 in
set_option maxHeartbeats 1000000 in
theorem bytes_row (A N : Nat) (h : Mem 103 w g b m t p C M D) (hN : 0 < N) (hin2 : A + N ≤ 1024 * p) :
    Calls Tryz.prog 49 #[.pointer (some ⟨g, 0, none⟩), .int .u32 A, .int .i64 N] w fun e w' => ∃ X, w.heap.size ≤ X ∧ e = .returned (.tuple #[.slice (some ⟨X, 0, none⟩) N N, .bool true]) ∧ w'.rowIs X 5 N (fun i => .int .u8 (C (A + i))) ∧ Fr (fun _ => False) w w' := by
  have p2 := h.p2
  have c0 := h.cell0
  have HI : Hid (inB p A N = true) := by show _ = _; unfold inB; exact decide_eq_true (by omega)
  have hm1 := run_make_row' (P := Tryz.prog) 24 5 (.int .u8 0) 1 Tryz.underlying24 info_u8 rfl .i64 .i64 N (by omega) (by omega)
  have lg := h.st.lt
  have lb := h.hb.lt
  have hw := World.rowIs_made w (.int .u8 0) N 5
  have h2 := h.alloc (.cells (madeCells #[.int .u8 0] N) 5)
  have c0' := h2.cell0
  have hA2 : A < 1024 * p := by omega
  go_enter Tryz.func49, Tryz.ntmps49
  go_wp2_with fail
  refine (holds_any _ _ h (by omega) (by omega) (by omega) (by omega)).mono ?_
  rintro e w' ⟨rfl, rfl⟩
  rw [HI.out]
  go_wp2_with (with_reducible refine wpList_copy_row rfl (.tmp 16) (.tmp 22) 24 24 rfl 5 Tryz.underlying24 size_u8 _ _ _ _ _ _ rfl rfl w.heap.size 0 N 5 _ hw N ?hmin2 (fun i => .int .u8 (C (A + i))) ?hpos2 (by omega) (fun _ => rfl) ?_)
  case hmin2 => exact (Nat.min_eq_right (by omega)).symm
  case hpos2 => first | (intro _ j hj; exact h.hb.cell (i := A + j) (by omega)) | (intro j hj; exact h.hb.cell (i := A + j) (by omega))
  intro w1 hr1 hf1
  go_wp2
  go_ret2
  exact ⟨_, Nat.le_refl _, rfl, hr1.congr fun i hi => by simp [hi], fr_new hf1⟩
end
theorem mbytes_row {w : World} {r : Nat} {O : Nat → Prop} {p : Nat} {C : Nat → Int} (A N : Nat) (h : Ra 103 w r O p C) (hN : 0 < N) (hin : A + N ≤ 1024 * p) :
    Calls Tryz.prog 49 #[.pointer (some ⟨r, 0, none⟩), .int .u32 A, .int .i64 N] w fun e w' => ∃ X, w.heap.size ≤ X ∧ e = .returned (.tuple #[.slice (some ⟨X, 0, none⟩) N N, .bool true]) ∧ w'.rowIs X 5 N (fun i => .int .u8 (C (A + i))) ∧ Fr (fun _ => False) w w' := by
  obtain ⟨b, m, t, rfl, h⟩ := h
  exact bytes_row A N h hN hin
/-- a memory's bytes as a text -/
theorem Ra.text {T : TypeId} {w : World} {r : Nat} {O : Nat → Prop} {C : Nat → Int} (h : Ra T w r O 2 C) : ∃ b, w.cell? ⟨r, 0, none⟩ = some (.slice (some ⟨b, 0, none⟩) 2048 2048) ∧ (convert 24 9 (.slice (some ⟨b, 0, none⟩) 2048 2048)).run Tryz.prog w = .ok (.string (strN 2048 C)) w := by
  obtain ⟨b, m, t, hO, h⟩ := h
  exact ⟨b, h.cell0, conv_any (row_by h.hb (fun i => ⟨h.c0 i, h.c1 i⟩))⟩
theorem Mk.text {w : World} {r y : Nat} {O : Nat → Prop} {n : Nat} {C D : Nat → Int} (h : Mk 62 w r y O 2 n C D) : ∃ b, w.cell? ⟨r, 0, none⟩ = some (.slice (some ⟨b, 0, none⟩) 2048 2048) ∧ (convert 24 9 (.slice (some ⟨b, 0, none⟩) 2048 2048)).run Tryz.prog w = .ok (.string (strN 2048 C)) w := by
  obtain ⟨M, _, _, hm, _⟩ := h
  exact hm.text
theorem kbytes_two {w : World} {r y : Nat} {O : Nat → Prop} {n : Nat} {C D : Nat → Int} (h : Mk 103 w r y O 2 n C D) :
    Calls Tryz.prog 49 #[.pointer (some ⟨r, 0, none⟩), .int .u32 0, .int .i64 2048] w fun e w' => ∃ X, w.heap.size ≤ X ∧ e = .returned (.tuple #[.slice (some ⟨X, 0, none⟩) 2048 2048, .bool true]) ∧ w'.rowIs X 5 2048 (fun i => .int .u8 (C (0 + i))) ∧ Fr (fun _ => False) w w' := by
  obtain ⟨M, _, _, hm, _⟩ := h
  exact mbytes_row 0 2048 hm (by omega) (by omega)
theorem ldV_form (p : Nat) (a n now : Int) (S : BS) : ∃ (v : Int) (b : Bool), ldV p a n now S = .tuple #[.int .u32 v, .bool b] := by
  unfold ldV
  split
  · exact ⟨_, _, rfl⟩
  · exact ⟨_, _, rfl⟩
  · exact ⟨_, _, rfl⟩
theorem ns_le (len : Nat) : nS len ≤ 64 := by unfold nS; omega
set_option maxRecDepth 100000 in
set_option maxHeartbeats 8000000 in
theorem play_any {Q Q2 : Nat → Prop} (IV DV : Value) (li ld : Nat) (fi fd : Nat → Int) (A : Option Addr) (len cap : Nat) (raw : Bool) (w : World) (HI : Hid (ByAt Q w IV li fi)) (HD : Hid (ByAt Q2 w DV ld fd)) (hli : li ≤ 10000) (hld : ld ≤ 4096) (HA : Hid (Asks w w.heap.size A len)) (hl : len ≤ 9223372036854775807) :
    Calls Tryz.prog 15 #[IV, DV, .slice A len cap, .bool raw] w (RetB (.bool true) w) := by
  have HN := Lib.hid (bnewp_any 2 2 rfl IV DV li ld fi fd w HI.out HD.out hli (by omega) (by omega))
  go_enter Tryz.func15, Tryz.ntmps15
  go_wp2_with fail
  with_reducible refine HN.out.mono ?_
  rintro e w1 ⟨G, U, rfl, hp, hn, hP, ho, hb1⟩
  have HI1 := HI.out.fr (S := fun _ => False) (Fr.of_below hb1) (fun _ _ _ => id)
  have HD1 := HD.out.fr (S := fun _ => False) (Fr.of_below hb1) (fun _ _ _ => id)
  have HM := Lib.hid (bnewr_any 2 2 rfl IV DV li ld fi fd w1 HI1 HD1 hli hld)
  clear HI1 HD1
  go_wp2_with fail
  with_reducible refine HM.out.mono ?_
  rintro e w2 ⟨m, r, y, O, rfl, hB, ho2, hb2⟩
  have hn64 : G.n ≤ 64 := hn ▸ ns_le ld
  rw [← hn, ← hp] at hB
  obtain ⟨C, hC⟩ : ∃ C, imC 2 li fi = C := ⟨_, rfl⟩
  obtain ⟨D, hD⟩ : ∃ D, imD ld fd = D := ⟨_, rfl⟩
  rw [hC, hD] at hP
  rw [show imC G.p li fi = C by rw [hp]; exact hC, hD] at hB
  have hT : Two w G m r y O w2 U V00 (S0B C D) (S0B C D) := two_new hP ho hb1 hB ho2 hb2
  have hG0 : Ok 0 (S0B C D) := Ok.zero _ _
  have HR := Lib.hid (bram_any hT.ta)
  clear hb1 hP ho hB ho2 hb2 hC hD hn
  go_wp2_with fail
  with_reducible refine HR.out.mono ?_
  rintro e w3 ⟨rfl, rfl⟩
  generalize S0B C D = S0 at hT hG0
  clear HR HN HM
  go_wp2_with fail
  go_loopw [11, 12] (fun nw i wr => ∃ (k : Nat) (now : Int) (U : PV) (V : SV) (S : BS), k ≤ 100 ∧ nw = .int .i64 now ∧ i = .int .i64 k ∧ Two w G m r y O wr U V S S ∧ 0 ≤ now ∧ now ≤ 50 * k ∧ Ok (256 * k) S) (fun _ i _ => 100 - (intOf i).toNat)
  case atStart => exact ⟨0, 0, _, _, _, by omega, rfl, rfl, hT, by omega, by omega, hG0⟩
  case round =>
    clear hT hG0
    obtain ⟨k, now, U, V, S, hk, rfl, rfl, hT, n0, n1, hG⟩ := hrel
    by_cases hlt : k < len ∧ k < 100
    · obtain ⟨x1, x0⟩ := hlt
      have z100 : (k : Int) < 100 := by omega
      obtain ⟨ab, ao, kd, kk, dv, at_, yv, by_, bb, rfl, hab, q0, q1, q2, q3, q4, q5, q6, r1, r2, r3, r4, r5, r6⟩ := HA.out k x1
      have e0 := (hT.bl.cell (p := ⟨ab, ao + k * 7, none⟩) hab).trans q0
      have e1 := (hT.bl.cell (p := ⟨ab, ao + k * 7 + 1, none⟩) hab).trans q1
      have e2 := (hT.bl.cell (p := ⟨ab, ao + k * 7 + 2, none⟩) hab).trans q2
      have e3 := (hT.bl.cell (p := ⟨ab, ao + k * 7 + 3, none⟩) hab).trans q3
      have e4 := (hT.bl.cell (p := ⟨ab, ao + k * 7 + 4, none⟩) hab).trans q4
      have e5 := (hT.bl.cell (p := ⟨ab, ao + k * 7 + 5, none⟩) hab).trans q5
      have e6 := (hT.bl.cell (p := ⟨ab, ao + k * 7 + 6, none⟩) hab).trans q6
      clear q0 q1 q2 q3 q4 q5 q6
      have hT1 := hT.alloc (.cells #[.int .i64 kd, .int .i64 kk, .int .i64 dv, .int .u32 at_, .int .u32 yv, .int .i64 by_, .int .u8 bb] 97)
      have hB1 := Ab.new hT kd kk dv at_ yv by_ bb
      have HR1 := Lib.hid r1
      have HR2 := Lib.hid r2
      have HR3 := Lib.hid r3
      have HR4 := Lib.hid r4
      have HR5 := Lib.hid r5
      have HR6 := Lib.hid r6
      clear r1 r2 r3 r4 r5 r6
      go_wp2_with fail
      generalize wr.alloc (.cells #[.int .i64 kd, .int .i64 kk, .int .i64 dv, .int .u32 at_, .int .u32 yv, .int .i64 by_, .int .u8 bb] 97) = W2 at hT1 hB1 ⊢
      generalize wr.heap.size = X at hB1 ⊢
      clear hT e0 e1 e2 e3 e4 e5 e6
      have c1 := hB1.c1
      have c3 := hB1.c3
      have c4 := hB1.c4
      go_quiet (fail)
      have hT2 := hT1.drewN nq
      have hB2 : Ab (W2.drewN nq) X G m O U V kd kk dv at_ yv by_ bb := hB1.no' ((Fr.refl (fun _ => False) W2).drewN nq)
      clear hT1 hB1 c1 c3 c4
      generalize W2.drewN nq = W3 at hT2 hB2 ⊢
      go_upto_if 57 with fail
      go_cut [14, 15, 16] (fun va vn vv wc => ∃ a n v : Int, va = .int .u32 a ∧ vn = .int .i64 n ∧ vv = .int .u32 v ∧ Hid (0 ≤ a ∧ a < 4294967296) ∧ Hid (-9223372036854775808 ≤ n ∧ n ≤ 9223372036854775807) ∧ Hid (Wd v) ∧ Two w G m r y O wc U V S S ∧ Ab wc X G m O U V kd kk dv at_ yv by_ bb)
      case first =>
        cases raw
        · obtain ⟨j, hj, ej⟩ : ∃ j : Nat, j < 4 ∧ bits .and .i64 kk 3 = j := ⟨(kk % 4).toNat, by omega, by rw [and3i]; omega⟩
          obtain ⟨ws, wv0, wv1, hws⟩ := within_one dv HR2.out.1 HR2.out.2
          have HWS := Lib.hid hws
          have bl : Below W3.heap.size W3 (W3.alloc (.cells #[.int .i64 1, .int .i64 2, .int .i64 4, .int .i64 4] 3)) := (Below.refl _ _).alloc (Nat.le_refl _) _
          have hT4 := hT2.below bl
          have hB4 := hB2.no' (Fr.of_below bl)
          have q := lit_at .i64 W3 nL #[.int .i64 1, .int .i64 2, .int .i64 4, .int .i64 4] 3 rfl j hj
          obtain ⟨nv, hnv⟩ : ∃ nv, nL.getD j 0 = nv := ⟨_, rfl⟩
          obtain ⟨nv0, nv1⟩ : 1 ≤ nv ∧ nv ≤ 4 := hnv ▸ n_rng j hj
          rw [hnv] at q
          have c1 := hB4.c1
          have c2 := hB4.c2
          have c3 := hB4.c3
          clear bl hT2 hB2 hnv hws
          have HNV : Hid (-9223372036854775808 ≤ nv ∧ nv ≤ 9223372036854775807) := ⟨by omega, by omega⟩
          have HAT : Hid (0 ≤ at_ % 2060 ∧ at_ % 2060 < 4294967296) := ⟨by omega, by omega⟩
          have ht3 : at_.tmod 2060 = at_ % 2060 := Int.tmod_eq_emod_of_nonneg HR3.out.1
          by_cases hdv : dv.tmod 2 = 1
          · have ht6 : at_.tmod 6 = at_ % 6 := Int.tmod_eq_emod_of_nonneg HR3.out.1
            have htv : yv.tmod 300 = yv % 300 := Int.tmod_eq_emod_of_nonneg HR4.out.1
            go_wp2_with fail
            go_quiet ((go_at_call 46; with_reducible exact (HWS.out _).mono fun _ _ h => ⟨h.1, _, h.2.symm⟩))
            go_wp2_with fail
            go_meet
            exact ⟨_, _, _, rfl, rfl, rfl, Lib.hid ⟨by omega, by omega⟩, Lib.hid ⟨by omega, by omega⟩, Lib.hid ⟨by omega, by omega⟩, hT4.drewN nq, hB4.no' ((Fr.refl (fun _ => False) _).drewN _)⟩
          · go_wp2_with fail
            go_meet
            exact ⟨_, _, _, rfl, rfl, rfl, HAT, HNV, HR4, hT4, hB4⟩
        · go_wp2_with fail
          go_meet
          exact ⟨_, _, _, rfl, rfl, rfl, HR3, HR1, HR4, hT2, hB2⟩
      case rest =>
        clear hT2 hB2
        obtain ⟨a, n, v, rfl, rfl, rfl, HA1, HN1, HV1, hT2, hB2⟩ := hcut
        have c0 := hB2.c0
        have c5 := hB2.c5
        have c6 := hB2.c6
        go_upto_block 2 with fail
        go_cut [11] (fun nw wc => ∃ (now' : Int) (U' : PV) (V' : SV) (S' : BS), nw = .int .i64 now' ∧ Two w G m r y O wc U' V' S' S' ∧ Hid (0 ≤ now' ∧ now' ≤ 50 * (k + 1)) ∧ Hid (Ok (256 * (k + 1)) S'))
        case first =>
          have hgk : Gk (256 * k) S := hG.g
          have hN1 : (256 * k : Int) + 1 ≤ 60000 := by omega
          have hN2 : (256 * k : Int) + 256 ≤ 60000 := by omega
          have hnow : now ≤ 4611686018427387000 := by omega
          have HE : Hid (∀ T, Ok (256 * k) T → Ok (256 * (k + 1)) T) := Lib.hid fun T h => h.mono (by omega)
          have HE1 : Hid (∀ T, Ok (256 * k + 1) T → Ok (256 * (k + 1)) T) := Lib.hid fun T h => h.mono (by omega)
          have HE2 : Hid (∀ T, Ok (256 * k + 256) T → Ok (256 * (k + 1)) T) := Lib.hid fun T h => h.mono (by omega)
          have HW0 : Hid (0 ≤ now ∧ now ≤ 50 * (k + 1)) := Lib.hid ⟨n0, by omega⟩
          have HG := Lib.hid hG
          clear hG hgk
          by_cases k3 : kd = 3 ∨ kd = 4
          · as_aux_lemma =>
            obtain ⟨lv, lb, hld1⟩ := ldV_form G.p a n now S
            have HL := Lib.hid (loadA a n now hT2 HG.out HA1.out.1 HA1.out.2 HN1.out.1 HN1.out.2 n0 hnow)
            rw [hld1] at HL
            have HLD := Lib.hid hld1
            clear hld1
            rcases k3 with k3 | k3
            · subst k3
              go_wp2_with fail
              with_reducible refine HL.out.mono ?_
              rintro e w4 ⟨rfl, U4, hT4, _⟩
              have HM := Lib.hid (loadB a n now hT4 HG.out HA1.out.1 HA1.out.2 HN1.out.1 HN1.out.2 n0 hnow)
              rw [HLD.out] at HM
              clear hT2 hB2 c0 c5 c6 HL hT4
              go_wp2_with fail
              with_reducible refine HM.out.mono ?_
              rintro e w5 ⟨rfl, V5, hT5, _⟩
              clear HM
              go_wp2_with fail
              go_meet
              exact ⟨now, _, _, _, rfl, hT5, HW0, Lib.hid (HE.out _ (HG.out.ld _ _))⟩
            · subst k3
              go_wp2_with fail
              with_reducible refine HL.out.mono ?_
              rintro e w4 ⟨rfl, U4, hT4, _⟩
              have HM := Lib.hid (loadB a n now hT4 HG.out HA1.out.1 HA1.out.2 HN1.out.1 HN1.out.2 n0 hnow)
              rw [HLD.out] at HM
              clear hT2 hB2 c0 c5 c6 HL hT4
              go_wp2_with fail
              with_reducible refine HM.out.mono ?_
              rintro e w5 ⟨rfl, V5, hT5, _⟩
              clear HM
              go_wp2_with fail
              go_meet
              exact ⟨now, _, _, _, rfl, hT5, HW0, Lib.hid (HE.out _ (HG.out.ld _ _))⟩
          · have k03 : (kd == 3) = false := beq_false_of_ne (fun e => k3 (.inl e))
            have k04 : (kd == 4) = false := beq_false_of_ne (fun e => k3 (.inr e))
            by_cases k5 : kd = 5
            · as_aux_lemma =>
              subst k5
              obtain ⟨rc, hrc⟩ : ∃ rc, runC G.p G.n now 256 S = rc := ⟨_, rfl⟩
              have HL := Lib.hid (fireA now hT2 HG.out hN2 hn64 n0 hnow)
              rw [hrc] at HL
              have HRC := Lib.hid hrc
              clear hrc k03 k04
              go_wp2_with fail
              with_reducible refine HL.out.mono ?_
              rintro e w4 ⟨rfl, U4, hT4, _⟩
              have HM := Lib.hid (fireB now hT4 HG.out hN2 hn64 n0 hnow)
              rw [HRC.out] at HM
              clear hT2 hB2 c0 c5 c6 HL hT4
              go_wp2_with fail
              with_reducible refine HM.out.mono ?_
              rintro e w5 ⟨rfl, V5, hT5, _⟩
              clear HM
              go_wp2_with fail
              go_meet
              exact ⟨now, _, _, _, rfl, hT5, HW0, Lib.hid (HE2.out _ (HG.out.fire _))⟩
            · have k05 : (kd == 5) = false := beq_false_of_ne k5
              by_cases k6 : kd = 6
              · as_aux_lemma =>
                subst k6
                clear k03 k04
                have HW := Lib.hid (within_any by_ 0 50 wc (by omega) (by omega) (by omega) HR5.out.1 HR5.out.2)
                go_wp2_with fail
                with_reducible refine HW.out.mono ?_
                rintro e w4 ⟨z5, z50, z51, rfl, rfl⟩
                clear HW
                go_wp2_with fail
                go_meet
                exact ⟨_, _, _, _, rfl, hT2, Lib.hid ⟨by omega, by omega⟩, Lib.hid (HE.out _ HG.out)⟩
              · have k06 : (kd == 6) = false := beq_false_of_ne k6
                by_cases k7 : kd = 7
                · as_aux_lemma =>
                  subst k7
                  clear k03 k04 k05
                  have HL := Lib.hid (typeA bb hT2 HG.out HR6.out)
                  go_wp2_with fail
                  with_reducible refine HL.out.mono ?_
                  rintro e w4 ⟨rfl, U4, hT4, o4⟩
                  have hB4 := hB2.off o4
                  have d6 := hB4.c6
                  have HM := Lib.hid (typeB2 bb hT4 HR6.out)
                  clear hT2 hB2 c0 c5 c6 HL hT4 o4
                  go_wp2_with fail
                  with_reducible refine HM.out.mono ?_
                  rintro e w5 ⟨rfl, V5, hT5, _⟩
                  clear HM
                  go_wp2_with fail
                  go_meet
                  exact ⟨now, _, _, _, rfl, hT5, HW0, Lib.hid (HE.out _ (HG.out.typ HR6.out))⟩
                · as_aux_lemma =>
                  have k07 : (kd == 7) = false := beq_false_of_ne k7
                  obtain ⟨sv, hsv⟩ : ∃ sv, stV G.p a n = sv := ⟨_, rfl⟩
                  have HL := Lib.hid (storeA a n v now hT2 HG.out hN1 HA1.out.1 HA1.out.2 HN1.out.1 HN1.out.2 HV1.out n0 hnow)
                  rw [hsv] at HL
                  have HSV := Lib.hid hsv
                  clear hsv
                  go_wp2_with fail
                  with_reducible refine HL.out.mono ?_
                  rintro e w4 ⟨rfl, U4, hT4, _⟩
                  have HM := Lib.hid (storeB a n v now hT4 HG.out hN1 HA1.out.1 HA1.out.2 HN1.out.1 HN1.out.2 HV1.out n0 hnow)
                  rw [HSV.out] at HM
                  clear hT2 hB2 c0 c5 c6 HL hT4
                  go_wp2_with fail
                  with_reducible refine HM.out.mono ?_
                  rintro e w5 ⟨rfl, V5, hT5, _⟩
                  clear HM
                  go_wp2_with fail
                  go_meet
                  exact ⟨now, _, _, _, rfl, hT5, HW0, Lib.hid (HE1.out _ (HG.out.st _ _ HV1.out n0))⟩
        case rest =>
          clear hT2 hB2 c0 c5 c6 hG n0 n1
          obtain ⟨now2, U2, V2, S2, rfl, hT2, HN2, HG2⟩ := hcut
          have hl2 : S2.L.length ≤ 990000 := HG2.out.g.l6 (by omega)
          have ho2 : S2.out.length ≤ 1000000 := by have := HG2.out.g.o1; omega
          have HS := Lib.hid (bsame_any hT2 hl2 ho2 hn64)
          clear hl2 ho2
          go_wp2_with fail
          with_reducible refine HS.out.mono ?_
          rintro e w5 ⟨rfl, hT5, _⟩
          clear HS
          go_wp2_with fail
          go_roundw
          case rel => exact ⟨k + 1, now2, U2, V2, S2, by omega, rfl, by go_num, hT5, HN2.out.1, by have := HN2.out.2; omega, by rw [show (256 * ((k + 1 : Nat) : Int)) = 256 * ((k : Int) + 1) by omega]; exact HG2.out⟩
          case measure => simp [intOf]; omega
    · by_cases hx : k < len
      all_goals
        (try have hd : decide ((k : Int) < 100) = false := by simp; omega)
        clear hlt
        have HR := Lib.hid (bram_any hT.ta)
        have hmm := hT.ta.mm
        rw [hp] at hmm
        have HK := Lib.hid (kbytes_two hmm)
        clear hmm
        go_wp2_with fail
        with_reducible refine HR.out.mono ?_
        rintro e w5 ⟨rfl, rfl⟩
        go_wp2_with fail
        with_reducible refine HK.out.mono ?_
        rintro e w5 ⟨Y, hY, rfl, hr5, hf5⟩
        have hT5 := hT.no hf5
        have hT6 := hT5.drewN 1
        have hmm := hT6.tb.mm
        rw [hp] at hmm
        obtain ⟨b2, d0, kq⟩ := hmm.text
        have d1 : w5.drew.cell? ⟨m, 0, none⟩ = some (.pointer (some ⟨r, 0, none⟩)) := hT6.tb.b0
        have d2 : w5.drew.cell? ⟨r, 0, none⟩ = some (.slice (some ⟨b2, 0, none⟩) 2048 2048) := d0
        obtain ⟨st, hst⟩ : ∃ st, strN 2048 S.C = st := ⟨_, rfl⟩
        have hbd := hT6.ta.mm.bC
        have hr6 : w5.drew.rowIs Y 5 2048 (fun i => .int .u8 (S.C (0 + i))) := hr5
        have e0 : (fun i => S.C (0 + i)) = S.C := by funext i; rw [Nat.zero_add]
        have k1 : (convert 24 9 (.slice (some ⟨Y, 0, none⟩) 2048 2048)).run Tryz.prog w5.drew = .ok (.string st) w5.drew := by
          rw [← hst]
          have := conv_any (row_by hr6 (fun i => hbd (0 + i)))
          rw [e0] at this
          exact this
        have k2 : (convert 24 9 (.slice (some ⟨b2, 0, none⟩) 2048 2048)).run Tryz.prog w5.drew = .ok (.string st) w5.drew := by rw [← hst]; exact kq
        have hbl := hT6.bl
        clear hT hT5 hT6 hY hr5 hf5 hst hbd hr6 e0 kq d0 hmm HR HK
        go_wp2_with fail
        go_region_held3 (fun w' => w'.cell? ⟨m, 0, none⟩ = some (.pointer (some ⟨r, 0, none⟩)) ∧ w'.cell? ⟨r, 0, none⟩ = some (.slice (some ⟨b2, 0, none⟩) 2048 2048) ∧ (convert 24 9 (.slice (some ⟨Y, 0, none⟩) 2048 2048)).run Tryz.prog w' = .ok (.string st) w' ∧ (convert 24 9 (.slice (some ⟨b2, 0, none⟩) 2048 2048)).run Tryz.prog w' = .ok (.string st) w') (first | with_reducible exact ⟨d1, d2, k1, k2⟩) (first | (go_at_call 0; fail))
        go_wp2
        go_ret
        exact ⟨rfl, hbl⟩
end Go.Proofs.YtkfedihaldpgmaaGreat
