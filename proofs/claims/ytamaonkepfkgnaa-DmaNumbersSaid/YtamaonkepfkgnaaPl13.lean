/-
  Chapter 13: a mover of package dma and the document's, played side by side by any calls (function 'play').
-/
import Derived.Test.YtamaonkepfkgnaaTw13
import Derived.Deep.RegionHeld3
import Derived.Deep.RegionWith
import Derived.Deep.DeepCutAuto
import Derived.Deep.CutBlock
namespace Go.Proofs.Ytamaonkepfkgnaa
open Go.RowKit
set_option linter.unusedVariables false
set_option linter.unusedSimpArgs false
/-- k rounds -/
def itD (now : Int) : Nat → DS → DS
  | 0, S => S
  | k + 1, S => spD 2 now (itD now k S)
theorem Gd.its {n now : Int} {S : DS} (h : Gd n S) : ∀ k : Nat, Gd n (itD now k S)
  | 0 => h
  | k + 1 => (Gd.its h k).step
theorem mbytes_two {w : World} {r : Nat} {O : Nat → Prop} {C : Nat → Int} (h : Ra 85 w r O 2 C) :
    Calls Try.prog 14 #[.pointer (some ⟨r, 0, none⟩), .int .u32 0, .int .i64 2048] w fun e w' => ∃ X, w.heap.size ≤ X ∧ e = .returned (.tuple #[.slice (some ⟨X, 0, none⟩) 2048 2048, .bool true]) ∧ w'.rowIs X 5 2048 (fun i => .int .u8 (C (0 + i))) ∧ Fr (fun _ => False) w w' :=
  mbytes_row 0 2048 h (by omega) (by omega)
/-- a memory's bytes as a text -/
theorem Ra.text {T : TypeId} {w : World} {r : Nat} {O : Nat → Prop} {C : Nat → Int} (h : Ra T w r O 2 C) : ∃ b, w.cell? ⟨r, 0, none⟩ = some (.slice (some ⟨b, 0, none⟩) 2048 2048) ∧ (convert 32 9 (.slice (some ⟨b, 0, none⟩) 2048 2048)).run Try.prog w = .ok (.string (strN 2048 C)) w := by
  obtain ⟨b, m, t, hO, h⟩ := h
  exact ⟨b, h.cell0, conv_any (row_by h.hb (fun i => ⟨h.c0 i, h.c1 i⟩))⟩
set_option maxRecDepth 100000 in
set_option maxHeartbeats 8000000 in
theorem play_any (A : Option Addr) (len cap : Nat) (near : Bool) (w : World) (HA : Hid (Asks w w.heap.size A len)) (hl : len ≤ 9223372036854775807) :
    Calls Try.prog 7 #[.slice A len cap, .bool near] w (RetB (.bool true) w) := by
  go_enter Try.func7, Try.ntmps7
  go_wp2_with fail
  refine (wnew_any w).mono ?_
  rintro e w1 ⟨g, hg, rfl, hw, hb⟩
  go_wp2_with fail
  with_reducible refine (mnew_any 2 2 rfl w1).mono ?_
  rintro e w2 ⟨r, O, rfl, ho, hm, hb2⟩
  have hw2 := hw.below hb2
  have hgl := hw.lt g (.inl rfl)
  have hog : ¬ O g := fun e => by have := ho g e; omega
  go_wp2_with fail
  with_reducible refine (dnew_any 4 hw2 hm hog).mono ?_
  rintro e w3 ⟨x, hx, rfl, hD, hb3⟩
  go_wp2_with fail
  with_reducible refine (bnew_any w3).mono ?_
  rintro e w4 ⟨C, m, r2, P, hp, hmm, rfl, hU, hb4⟩
  have h0 : Two w C 2 w4 x g r O (.slice none 0 0) (S00 Z0) m r2 P (.slice none 0 0) (S00 Z0) := two_new hg hb hgl ho hb2 hx hD hb3 hp hmm hU hb4
  clear hg hw hb ho hm hb2 hw2 hgl hog hx hD hb3 hp hmm hU hb4
  go_wp2_with fail
  go_loopw [9, 10] (fun nw i wr => ∃ (k : Nat) (now : Int) (v u : Value) (S : DS), k ≤ 80 ∧ nw = .int .i64 now ∧ i = .int .i64 k ∧ Two w C 2 wr x g r O v S m r2 P u S ∧ 0 ≤ now ∧ now ≤ 1100 * k ∧ Gd k S) (fun _ i _ => 80 - (intOf i).toNat)
  case atStart => exact ⟨0, 0, _, _, _, by omega, rfl, rfl, h0, by omega, by omega, ⟨by decide, by decide, by decide, by decide, by decide, by decide, by decide, by decide, fun _ _ e => by cases e⟩⟩
  case round =>
    clear h0
    obtain ⟨k, now, v, u, S, hk, rfl, rfl, hT, n0, n1, hG⟩ := hrel
    by_cases hlt : k < 80 ∧ k < len
    · obtain ⟨x0, x1⟩ := hlt
      obtain ⟨ab, ao, kd, kk, y, by_, bb, rfl, hab, q0, q1, q2, q3, q4, k0, k1, v0, v1, y0, y1, z0, z1⟩ := HA.out k x1
      have e0 := (hT.bl.cell (p := ⟨ab, ao + k * 5, none⟩) hab).trans q0
      have e1 := (hT.bl.cell (p := ⟨ab, ao + k * 5 + 1, none⟩) hab).trans q1
      have e2 := (hT.bl.cell (p := ⟨ab, ao + k * 5 + 2, none⟩) hab).trans q2
      have e3 := (hT.bl.cell (p := ⟨ab, ao + k * 5 + 3, none⟩) hab).trans q3
      have e4 := (hT.bl.cell (p := ⟨ab, ao + k * 5 + 4, none⟩) hab).trans q4
      clear q0 q1 q2 q3 q4
      have z80 : (k : Int) < 80 := by omega
      have hT1 := hT.alloc (.cells #[.int .i64 kd, .int .i64 kk, .int .u32 y, .int .i64 by_, .int .u8 bb] 26)
      have hB1 := Ab.new hT kd kk y by_ bb
      have HG := Lib.hid hG
      clear hG
      go_wp2_with fail
      generalize wr.alloc (.cells #[.int .i64 kd, .int .i64 kk, .int .u32 y, .int .i64 by_, .int .u8 bb] 26) = W2 at hT1 hB1 ⊢
      generalize wr.heap.size = X at hB1 ⊢
      clear hT e0 e1 e2 e3 e4
      have c1 := hB1.c1
      have c2 := hB1.c2
      with_reducible refine (within_any kk 0 6 W2 (by omega) (by omega) (by omega) k0 k1).mono ?_
      rintro e w' ⟨z, z0', z1', rfl, rfl⟩
      obtain ⟨kn, hkn, rfl⟩ : ∃ kn : Nat, kn ≤ 6 ∧ z = (kn : Int) := ⟨z.toNat, by omega, by omega⟩
      clear k0 k1
      go_upto_if 62 with fail
      go_cut [13] (fun y wc => ∃ y' : Int, y = .int .u32 y' ∧ 0 ≤ y' ∧ y' < 4294967296 ∧ W2 = wc)
      case first =>
        cases near
        · go_wp2_with fail
          go_meet
          exact ⟨_, rfl, by omega, by omega, rfl⟩
        · by_cases hk3 : kn = 2
          · subst hk3
            go_wp2_with fail
            go_meet
            exact ⟨_, rfl, by omega, by omega, rfl⟩
          · have hk8 : ((kn : Int) * 4 == 8) = false := beq_false_of_ne (by omega)
            go_wp2_with fail
            go_meet
            exact ⟨_, rfl, by omega, by omega, rfl⟩
      case rest =>
        obtain ⟨xx, rfl, xx0, xx1, rfl⟩ := hcut
        have c0 := hB1.c0
        have HV : Hid (0 ≤ y ∧ y < 4294967296) := ⟨v0, v1⟩
        clear v0 v1
        have c3 := hB1.c3
        have c4 := hB1.c4
        go_upto_block 2 with fail
        go_cut [9] (fun nw wc => ∃ (now' : Int) (v' u' : Value) (S' : DS), nw = .int .i64 now' ∧ Two w C 2 wc x g r O v' S' m r2 P u' S' ∧ 0 ≤ now' ∧ now' ≤ 1100 * (k + 1) ∧ Hid (Gd (k + 1) S'))
        case first =>
          clear c1 z0' z1'
          have hnb : now ≤ 4611686018427387904 := by omega
          have ha : 0 ≤ S.a ∧ S.a ≤ 1000000 := ⟨HG.out.a0, by have := HG.out.a1; omega⟩
          have hc0 := HG.out.c0
          have hc1 := HG.out.c1
          by_cases k2 : kd = 2
          · subst k2
            obtain ⟨WD, HWD⟩ : ∃ z, Hid (wordD kn S = z) := ⟨_, rfl⟩
            obtain ⟨WB, HWB⟩ : ∃ z, Hid (decide (kn < 5) = z) := ⟨_, rfl⟩
            go_wp2_with fail
            with_reducible refine (dread_any kn _ hT1.ta hkn rfl).mono ?_
            rintro e w4 ⟨rfl, rfl⟩
            rw [HWD.out, HWB.out]
            go_wp2_with fail
            with_reducible refine (rword_any kn _ now hT1.tb hkn rfl).mono ?_
            rintro e w4 ⟨rfl, hb4⟩
            rw [HWD.out, HWB.out]
            have hT4 := hT1.below hb4
            go_wp2_with fail
            go_meet
            exact ⟨now, v, u, S, rfl, hT4, n0, by omega, Lib.hid (HG.out.mono (by omega))⟩
          · have k02 : (kd == 2) = false := beq_false_of_ne k2
            by_cases k3 : kd = 3
            · subst k3
              go_wp2_with fail
              go_loopw [18] (fun j wr => ∃ (n : Nat) (v' u' : Value), n ≤ 3 ∧ j = .int .i64 n ∧ Two w C 2 wr x g r O v' (itD now n S) m r2 P u' (itD now n S)) (fun j _ => 3 - (intOf j).toNat)
              case atStart => exact ⟨0, v, u, by omega, rfl, hT1⟩
              case round =>
                clear hT1 hB1 c0 c2 c3 c4
                obtain ⟨n, v', u', hn, rfl, hT3⟩ := hrel
                by_cases hlt : n < 3
                · have z3 : (n : Int) < 3 := by omega
                  have hg := HG.out.its (now := now) n
                  obtain ⟨Sn, HSn⟩ : ∃ Sn, Hid (itD now n S = Sn) := ⟨_, rfl⟩
                  rw [HSn.out] at hT3 hg
                  cases hd : duB now Sn
                  · have HE : Hid (itD now (n + 1) S = Sn) := by show spD 2 now (itD now n S) = _; rw [HSn.out, spD_no hd]
                    clear hg
                    go_wp2_with fail
                    with_reducible refine (dtake_no hT3.ta hd).mono ?_
                    rintro e w5 ⟨rfl, v5, h5, c5⟩
                    have hT5 := (hT3.left h5 c5).alloc (.cells #[.int .i64 0, .int .i64 0, .int .i64 0] 45)
                    clear hT3 h5 c5
                    go_wp2_with fail
                    generalize w5.alloc (.cells #[.int .i64 0, .int .i64 0, .int .i64 0] 45) = w6 at hT5 ⊢
                    with_reducible refine (rtake_no hT5.tb hd).mono ?_
                    rintro e w7 ⟨rfl, u7, h7, c7⟩
                    have hT7 := (hT5.right h7 c7).alloc (.cells #[.int .i64 0, .int .i64 0, .int .i64 0] 45)
                    clear hd hT5 h7 c7
                    go_wp2_with fail
                    go_roundw
                    case rel => exact ⟨n + 1, v5, u7, by omega, by go_num, by rw [HE.out]; exact hT7⟩
                    case measure => simp [intOf]; omega
                  · obtain ⟨b0, b1, b2, b3, b4, b5⟩ : 0 ≤ Sn.f ∧ Sn.f < 4294967296 ∧ 0 ≤ Sn.t ∧ Sn.t < 4294967296 ∧ 0 ≤ Sn.c ∧ Sn.c < 4294967296 := ⟨hg.f0, hg.f1, hg.t0, hg.t1, hg.c0, hg.c1⟩
                    have HE : Hid (itD now (n + 1) S = fiD 2 { Sn with q := none }) := by show spD 2 now (itD now n S) = _; rw [HSn.out, spD_yes hd]
                    clear hg
                    go_wp2_with fail
                    with_reducible refine (dtake_yes hT3.ta hd).mono ?_
                    rintro e w5 ⟨rfl, v5, h5, c5⟩
                    have hT5 := (hT3.left h5 c5).alloc (.cells #[.int .i64 (tmQ Sn), .int .i64 4, .int .i64 (sqQ Sn)] 45)
                    clear hT3 h5 c5
                    go_wp2_with fail
                    generalize w5.alloc (.cells #[.int .i64 (tmQ Sn), .int .i64 4, .int .i64 (sqQ Sn)] 45) = w6 at hT5 ⊢
                    with_reducible refine (dfire_any (tmQ Sn) hT5.ta b0 b1 b2 b3 b4 b5).mono ?_
                    rintro e w7 ⟨rfl, v7, h7, c7⟩
                    have hT7 := hT5.left h7 c7
                    clear hT5 h7 c7
                    go_wp2_with fail
                    with_reducible refine (rtake_yes hT7.tb hd).mono ?_
                    rintro e w8 ⟨rfl, u8, h8, c8⟩
                    have hT8 := (hT7.right h8 c8).alloc (.cells #[.int .i64 (tmQ Sn), .int .i64 4, .int .i64 (sqQ Sn)] 45)
                    clear hT7 h8 c8 hd
                    go_wp2_with fail
                    generalize w8.alloc (.cells #[.int .i64 (tmQ Sn), .int .i64 4, .int .i64 (sqQ Sn)] 45) = w9 at hT8 ⊢
                    with_reducible refine (b1_any (tmQ Sn) (sqQ Sn) hT8.tb b0 b1 b2 b3 b4 b5).mono ?_
                    rintro e w10 ⟨rfl, u10, h10, c10⟩
                    have hT10 := hT8.right h10 c10
                    clear hT8 h10 c10
                    go_wp2_with fail
                    go_roundw
                    case rel => exact ⟨n + 1, v7, u10, by omega, by go_num, by rw [HE.out]; exact hT10⟩
                    case measure => simp [intOf]; omega
                · obtain rfl : n = 3 := by omega
                  have hg := HG.out.its (now := now) 3
                  go_wp2_with fail
                  go_meet
                  exact ⟨now, v', u', _, rfl, hT3, n0, by omega, Lib.hid (hg.mono (by omega))⟩
            · have k03 : (kd == 3) = false := beq_false_of_ne k3
              by_cases k4 : kd = 4
              · subst k4
                go_wp2_with fail
                with_reducible refine (within_any by_ 0 1100 W2 (by omega) (by omega) (by omega) y0 y1).mono ?_
                rintro e w' ⟨z5, z50, z51, rfl, rfl⟩
                go_wp2_with fail
                go_meet
                exact ⟨_, v, u, S, rfl, hT1, by omega, by omega, Lib.hid (HG.out.mono (by omega))⟩
              · have k04 : (kd == 4) = false := beq_false_of_ne k4
                by_cases k5 : kd = 5
                · subst k5
                  obtain ⟨v0, v1⟩ := HV.out
                  have HQ : Hid (y.tmod 2048 = y % 2048) := Int.tmod_eq_emod_of_nonneg v0
                  have HWR : Hid (IntKind.u32.wrap bb = bb) := by show _ = _; rw [IntKind.wrap_u32]; omega
                  have HBB : Hid (0 ≤ bb ∧ bb < 4294967296) := ⟨z0, by omega⟩
                  have HYY : Hid (0 ≤ y % 2048 ∧ y % 2048 < 4294967296) := ⟨by omega, by omega⟩
                  go_wp2_with fail
                  with_reducible refine (mstore_any (y % 2048) 1 bb hT1.ta.mm HYY.out.1 HYY.out.2 (by omega) (by omega) HBB.out.1 HBB.out.2).mono ?_
                  rintro e w4 ⟨rfl, hm4, hf4⟩
                  have hc4 : CD x g O v v W2 w4 := CD.of_mem hf4
                  have hT4 := hT1.left (hT1.ta.mem hm4 hf4) hc4
                  have hB4 := hB1.left hc4
                  clear hT1 hB1 c0 c2 c3 c4 hm4 hf4 hc4
                  have hT5 : Two w C 2 w4.drew x g r O v _ m r2 P u S := hT4.drewN 1
                  have hB5 : Ab w4.drew X x g O v m P u 5 kk y by_ bb := hB4.drewN 1
                  have d0 := hT5.tb.b0
                  have d2 := hB5.c2
                  have d4 := hB5.c4
                  go_wp2_with fail
                  go_region_held3 (fun w' => w'.cell? ⟨m, 0, none⟩ = some (.pointer (some ⟨r2, 0, none⟩)) ∧ w'.cell? ⟨X, 2, none⟩ = some (.int .u32 y) ∧ w'.cell? ⟨X, 4, none⟩ = some (.int .u8 bb)) (first | with_reducible exact ⟨d0, d2, d4⟩ | with_reducible exact ⟨f0, f2, f4⟩)
                    (first
                      | (go_at_call 25; (try rw [HQ.out]); (try rw [HWR.out]); (with_reducible refine (nstore_any (w := w4.drew) (y % 2048) 1 bb hT5.tb.mm HYY.out.1 HYY.out.2 (by omega) (by omega) HBB.out.1 HBB.out.2).mono ?_); rintro e w6 ⟨rfl, hm6, hf6⟩; have hc6 : CD m m P u u w4.drew w6 := CD.of_mem hf6; have hT6 := hT5.right (hT5.tb.mem hm6 hf6) hc6; have hB6 := hB5.right hc6; have f0 := hT6.tb.b0; have f2 := hB6.c2; have f4 := hB6.c4))
                  go_wp2_with fail
                  go_meet
                  exact ⟨now, v, u, _, rfl, hT6, n0, by omega, Lib.hid ((HG.out.setC _).mono (by omega))⟩
                · have k05 : (kd == 5) = false := beq_false_of_ne k5
                  obtain ⟨WB, HWB⟩ : ∃ z, Hid (decide (kn < 5) = z) := ⟨_, rfl⟩
                  clear c2 c3 c4
                  go_wp2_with fail
                  with_reducible refine (dwrite_any kn _ xx now hT1.ta hkn rfl xx0 xx1 ha hc0 hc1 (by omega) (by omega) n0 hnb).mono ?_
                  rintro e w4 ⟨rfl, v4, h4, c4⟩
                  rw [HWB.out]
                  have hT4 := hT1.left h4 c4
                  go_wp2_with fail
                  with_reducible refine (rset_any kn _ xx now hT4.tb hkn rfl xx0 xx1 ha hc0 hc1 n0 hnb).mono ?_
                  rintro e w5 ⟨rfl, u5, h5, c5⟩
                  rw [HWB.out]
                  have hT5 := hT4.right h5 c5
                  go_wp2_with fail
                  go_meet
                  exact ⟨now, v4, u5, _, rfl, hT5, n0, by omega, Lib.hid (HG.out.write kn n0 xx0 xx1)⟩
        case rest =>
          clear hT1 hB1 c0 c1 c2 c3 c4 HG n0 n1 z0' z1'
          obtain ⟨now2, v2, u2, S2, rfl, hT2, n0, n1, HG⟩ := hcut
          have hq := qL_len 4 S2.q
          obtain ⟨B, c, rfl, hc, hcm, hz, hA⟩ := (Wb.ev hT2.tb.wb).form
          clear hz hA
          have hTd : Two w C 2 wc.drew x g r O v2 S2 m r2 P (.slice B (qL 4 S2.q).length c) S2 := hT2.drewN 1
          have kc : wc.drew.cell? ⟨m, 1, none⟩ = some (.slice B (qL 4 S2.q).length c) := Wb.c0 hTd.tb.wb
          obtain ⟨sb, HSB⟩ : ∃ sb, Hid ((S2.dn || S2.er) = sb) := ⟨_, rfl⟩
          go_wp2_with fail
          go_region_held3 (fun w' => w'.cell? ⟨m, 1, none⟩ = some (.slice B (qL 4 S2.q).length c)) (first | with_reducible exact kc | with_reducible exact k6 | with_reducible exact k7)
            (first
              | (go_at_call 19; (with_reducible refine (dline_any hTd.ta).mono ?_); rintro e w4 ⟨rfl, rfl⟩; rw [HSB.out])
              | (go_at_call 27; (with_reducible refine (rline_any hTd.tb).mono ?_); rintro e w4 ⟨rfl, rfl⟩; rw [HSB.out])
              | (go_at_call 29; (with_reducible refine (all_any hTd.ta.wh (by omega)).mono ?_); rintro e w6 ⟨x6, rfl, hO6, hb6, hn6⟩; have hT6 := hTd.below hb6; have k6 := Wb.c0 hT6.tb.wb)
              | (go_at_call 28; (with_reducible refine (same_any hO6 (Wb.ev hT6.tb.wb) (by omega)).mono ?_); rintro e w7 ⟨rfl, n7, rfl⟩; have k7 := Wb.c0 (hT6.drewN n7).tb.wb))
          have hT7 := hT6.drewN n7
          go_wp2_with fail
          go_roundw
          case rel => exact ⟨k + 1, now2, v2, _, S2, by omega, rfl, by go_num, hT7, n0, by omega, by rw [show ((k + 1 : Nat) : Int) = (k : Int) + 1 by omega]; exact HG.out⟩
          case measure => simp [intOf]; omega
    · by_cases hx : k < len
      all_goals
        try (have hd : decide ((k : Int) < 80) = false := by simp; omega)
        clear hlt
        go_wp2_with fail
        with_reducible refine (mbytes_two hT.ta.mm).mono ?_
        rintro e w5 ⟨Y, hY, rfl, hr5, hf5⟩
        have hT5 := hT.left (hT.ta.no hf5) (CD.of_no hf5)
        have hT6 := hT5.drewN 1
        obtain ⟨b2, d0, kq⟩ := hT6.tb.mm.text
        have d1 : w5.drew.cell? ⟨m, 0, none⟩ = some (.pointer (some ⟨r2, 0, none⟩)) := hT6.tb.b0
        have d2 : w5.drew.cell? ⟨r2, 0, none⟩ = some (.slice (some ⟨b2, 0, none⟩) 2048 2048) := d0
        obtain ⟨st, hst⟩ : ∃ st, strN 2048 S.C = st := ⟨_, rfl⟩
        have hbd := hT6.ta.mm.bd
        have hr6 : w5.drew.rowIs Y 5 2048 (fun i => .int .u8 (S.C (0 + i))) := hr5
        have e0 : (fun i => S.C (0 + i)) = S.C := by funext i; rw [Nat.zero_add]
        have k1 : (convert 32 9 (.slice (some ⟨Y, 0, none⟩) 2048 2048)).run Try.prog w5.drew = .ok (.string st) w5.drew := by
          rw [← hst]
          have := conv_any (row_by hr6 (fun i => hbd (0 + i)))
          rw [e0] at this
          exact this
        have k2 : (convert 32 9 (.slice (some ⟨b2, 0, none⟩) 2048 2048)).run Try.prog w5.drew = .ok (.string st) w5.drew := by rw [← hst]; exact kq
        have hbl := hT6.bl
        clear hT hT5 hT6 hY hr5 hf5 hst hbd hr6 e0 kq d0
        go_wp2_with fail
        go_region_held3 (fun w' => w'.cell? ⟨m, 0, none⟩ = some (.pointer (some ⟨r2, 0, none⟩)) ∧ w'.cell? ⟨r2, 0, none⟩ = some (.slice (some ⟨b2, 0, none⟩) 2048 2048) ∧ (convert 32 9 (.slice (some ⟨Y, 0, none⟩) 2048 2048)).run Try.prog w' = .ok (.string st) w' ∧ (convert 32 9 (.slice (some ⟨b2, 0, none⟩) 2048 2048)).run Try.prog w' = .ok (.string st) w') (first | with_reducible exact ⟨d1, d2, k1, k2⟩) (first | (go_at_call 0; fail))
        go_wp2
        go_ret
        exact ⟨rfl, hbl⟩
end Go.Proofs.Ytamaonkepfkgnaa
