/-
  Chapter 11: a timer of package timer and the document's, played side by side by any calls (function 'play').
-/
import Derived.Test.YtgpphbganpoinaaTw11
import Derived.Deep.RegionHeld3
import Derived.Deep.RegionWith
import Derived.Deep.DeepCutAuto
import Derived.Deep.CutBlock
namespace Go.Proofs.Ytgpphbganpoinaa
open Go.RowKit
set_option linter.unusedVariables false
set_option linter.unusedSimpArgs false

/-- the cells of a slice of calls, as the walk asks for them -/
def Asks (w : World) (B : Nat) (a : Option Addr) (len : Nat) : Prop :=
  ∀ i, i < len → ∃ (b o : Nat) (kd kk x by_ bb : Int), a = some ⟨b, o, none⟩ ∧ b < B ∧
    w.cell? ⟨b, o + i * 5, none⟩ = some (.int .i64 kd) ∧ w.cell? ⟨b, o + i * 5 + 1, none⟩ = some (.int .i64 kk) ∧ w.cell? ⟨b, o + i * 5 + 2, none⟩ = some (.int .u32 x) ∧ w.cell? ⟨b, o + i * 5 + 3, none⟩ = some (.int .i64 by_) ∧ w.cell? ⟨b, o + i * 5 + 4, none⟩ = some (.int .u8 bb) ∧
    -9223372036854775808 ≤ kk ∧ kk ≤ 9223372036854775807 ∧ 0 ≤ x ∧ x < 4294967296 ∧ -9223372036854775808 ≤ by_ ∧ by_ ≤ 9223372036854775807
theorem two_new {W0 w1 w2 w3 : World} {C : Nat → Value} {o t g m : Nat} {d : Int} (hg : W0.heap.size ≤ g) (hw : Wh 72 w1 g (.slice none 0 0) [] 0) (hb : Below W0.heap.size W0 w1)
    (ht : w1.heap.size ≤ t) (hT : Ti w2 t g d (.slice none 0 0) ⟨false, false, false, 0, none, 0⟩) (hb2 : Below w1.heap.size w1 w2)
    (hm : w2.heap.size ≤ m) (hU : Bu C o w3 m d (.slice none 0 0) ⟨false, false, false, 0, none, 0⟩) (hb3 : Below w2.heap.size w2 w3) :
    Two W0 C o d w3 t g (.slice none 0 0) ⟨false, false, false, 0, none, 0⟩ m (.slice none 0 0) ⟨false, false, false, 0, none, 0⟩ := by
  have s1 := hb.size
  have s2 := hb2.size
  have hgl := hT.wh.st.lt
  have htl := hT.tm.lt
  refine ⟨hT.below hb3, hU, ?_, ?_, ?_, (hb.trans (hb2.mono s1)).trans (hb3.mono (by omega))⟩
  · rintro k (rfl | rfl | e) (e2 | e2)
    · omega
    · cases e2
    · omega
    · cases e2
    · cases e
    · cases e2
  · rintro k (rfl | rfl | e)
    · omega
    · exact hg
    · cases e
  · rintro k (rfl | e)
    · omega
    · cases e
set_option maxRecDepth 100000 in
set_option maxHeartbeats 8000000 in
theorem play_any (A : Option Addr) (len cap : Nat) (d : Int) (o : Nat) (ho : Dv d o) (w : World) (HA : Hid (Asks w w.heap.size A len)) (hl : len ≤ 9223372036854775807) :
    Calls Try.prog 7 #[.int .i64 d, .slice A len cap] w (RetB (.bool true) w) := by
  have hd0 : 0 ≤ d := by rcases ho with ⟨rfl, _⟩ | ⟨rfl, _⟩ <;> omega
  have hd1 : d < 16 := by rcases ho with ⟨rfl, _⟩ | ⟨rfl, _⟩ <;> omega
  go_enter Try.func7, Try.ntmps7
  go_wp2_with fail
  refine (wnew_any w).mono ?_
  rintro e w1 ⟨g, hg, rfl, hw, hb⟩
  go_wp2_with fail
  with_reducible refine (tnew_any d hw).mono ?_
  rintro e w2 ⟨t, ht, rfl, hT, hb2⟩
  go_wp2_with fail
  with_reducible refine (bnew_any w2 ho).mono ?_
  rintro e w3 ⟨C, m, hm, rfl, hU, hb3⟩
  have h0 := two_new hg hw hb ht hT hb2 hm hU hb3
  clear hg hw hb ht hT hb2 hm hU hb3
  go_wp2_with fail
  go_loopw [8, 9] (fun nw i wr => ∃ (k : Nat) (now : Int) (v u : Value) (S : TS), k ≤ 80 ∧ nw = .int .i64 now ∧ i = .int .i64 k ∧ Two w C o d wr t g v S m u S ∧ 0 ≤ now ∧ now ≤ 20 * k ∧ Gd (31 * k) S) (fun _ i _ => 80 - (intOf i).toNat)
  case atStart => exact ⟨0, 0, _, _, _, by omega, rfl, rfl, h0, by omega, by omega, ⟨by decide, by decide, by decide, by decide, fun _ _ e => by cases e⟩⟩
  case round =>
    clear h0
    obtain ⟨k, now, v, u, S, hk, rfl, rfl, hT, n0, n1, hG⟩ := hrel
    by_cases hlt : k < 80 ∧ k < len
    · obtain ⟨x0, x1⟩ := hlt
      obtain ⟨ab, ao, kd, kk, x, by_, bb, rfl, hab, q0, q1, q2, q3, q4, k0, k1, v0, v1, y0, y1⟩ := HA.out k x1
      have e0 := (hT.bl.cell (p := ⟨ab, ao + k * 5, none⟩) hab).trans q0
      have e1 := (hT.bl.cell (p := ⟨ab, ao + k * 5 + 1, none⟩) hab).trans q1
      have e2 := (hT.bl.cell (p := ⟨ab, ao + k * 5 + 2, none⟩) hab).trans q2
      have e3 := (hT.bl.cell (p := ⟨ab, ao + k * 5 + 3, none⟩) hab).trans q3
      have e4 := (hT.bl.cell (p := ⟨ab, ao + k * 5 + 4, none⟩) hab).trans q4
      clear q0 q1 q2 q3 q4
      have z80 : (k : Int) < 80 := by omega
      have hT1 := hT.alloc (.cells #[.int .i64 kd, .int .i64 kk, .int .u32 x, .int .i64 by_, .int .u8 bb] 26)
      have hB1 := Ab.new hT kd kk x by_ bb
      have HG := Lib.hid hG
      clear hG
      go_wp2_with fail
      generalize wr.alloc (.cells #[.int .i64 kd, .int .i64 kk, .int .u32 x, .int .i64 by_, .int .u8 bb] 26) = W2 at hT1 hB1 ⊢
      generalize wr.heap.size = X at hB1 ⊢
      clear hT e0 e1 e2 e3 e4
      have c1 := hB1.c1
      have c2 := hB1.c2
      refine (within_any kk 0 4 W2 (by omega) (by omega) (by omega) k0 k1).mono ?_
      rintro e w' ⟨z, z0, z1, rfl, rfl⟩
      obtain ⟨kn, hkn, rfl⟩ : ∃ kn : Nat, kn ≤ 4 ∧ z = (kn : Int) := ⟨z.toNat, by omega, by omega⟩
      go_upto_if 58 with fail
      go_cut [12] (fun y wc => ∃ y' : Int, y = .int .u32 y' ∧ 0 ≤ y' ∧ y' < 4294967296 ∧ W2 = wc)
      case first =>
        by_cases hk3 : kk.tmod 3 = 0
        all_goals
          go_wp2_with fail
          go_meet
          exact ⟨_, rfl, by omega, by omega, rfl⟩
      case rest =>
        obtain ⟨xx, rfl, xx0, xx1, rfl⟩ := hcut
        clear v0 v1
        have c0 := hB1.c0
        go_upto_block 2 with fail
        go_cut [8] (fun nw wc => ∃ (now' : Int) (v' u' : Value) (S' : TS), nw = .int .i64 now' ∧ Two w C o d wc t g v' S' m u' S' ∧ 0 ≤ now' ∧ now' ≤ 20 * (k + 1) ∧ Hid (Gd (31 * (k + 1)) S'))
        case first =>
          clear c1 c2
          have hgk : (31 * (k : Int) + 1 ≤ 31 * (k + 1)) := by omega
          have hnb : now ≤ 4611686018427387904 := by omega
          obtain ⟨a0, a1, p0, p1⟩ : 0 ≤ S.a ∧ S.a ≤ 10000 ∧ 0 ≤ S.p ∧ S.p < 4294967296 := ⟨HG.out.a0, by have := HG.out.a1; omega, HG.out.p0, HG.out.p1⟩
          by_cases k2 : kd = 2
          · subst k2
            obtain ⟨WD, HWD⟩ : ∃ z, Hid (wordT kn S = z) := ⟨_, rfl⟩
            obtain ⟨WB, HWB⟩ : ∃ z, Hid (decide (kn < 3) = z) := ⟨_, rfl⟩
            go_wp2_with fail
            with_reducible refine (read_any kn _ hT1.ta hkn rfl).mono ?_
            rintro e w4 ⟨rfl, rfl⟩
            rw [HWD.out, HWB.out]
            go_wp2_with fail
            with_reducible refine (rword_any kn _ now hT1.tb ho hkn rfl).mono ?_
            rintro e w4 ⟨rfl, hb4⟩
            rw [HWD.out, HWB.out]
            have hT4 := hT1.below hb4
            go_wp2_with fail
            go_meet
            exact ⟨now, v, u, S, rfl, hT4, n0, by omega, Lib.hid (HG.out.mono (by omega))⟩
          · have k02 : (kd == 2) = false := beq_false_of_ne k2
            by_cases k3 : kd = 3
            · subst k3
              go_upto_block 3 with fail
              go_cut [17] (fun _ wc => ∃ v', Two w C o d wc t g v' (itN now 30 S) m u S)
              case first =>
                go_wp2_with fail
                go_loopw [17] (fun j wr => ∃ (n : Nat) (v' : Value), n ≤ 30 ∧ j = .int .i64 n ∧ Two w C o d wr t g v' (itN now n S) m u S) (fun j _ => 30 - (intOf j).toNat)
                case atStart => exact ⟨0, v, by omega, rfl, hT1⟩
                case round =>
                  clear hT1 hB1 c0
                  obtain ⟨n, v', hn, rfl, hT3⟩ := hrel
                  by_cases hlt : n < 30
                  · have z30 : (n : Int) < 30 := by omega
                    obtain ⟨Sn, HSn⟩ : ∃ Sn, Hid (itN now n S = Sn) := ⟨_, rfl⟩
                    rw [HSn.out] at hT3
                    cases hd : duB now Sn
                    · have HE : Hid (itN now 30 S = Sn) := by show _ = _; rw [← HSn.out] at hd ⊢; exact (itN_end hd hn).symm
                      go_wp2_with fail
                      with_reducible refine (ttake_no hT3.ta hd).mono ?_
                      rintro e w5 ⟨rfl, v5, h5, c5⟩
                      have hT5 := (hT3.left h5 c5).alloc (.cells #[.int .i64 0, .int .i64 0, .int .i64 0] 37)
                      clear hd
                      go_wp2_with fail
                      go_meet
                      exact ⟨v5, by rw [HE.out]; exact hT5⟩
                    · have hg := HG.out.its (now := now) n
                      rw [HSn.out] at hg
                      obtain ⟨b0, b1, b2, b3⟩ : 0 ≤ Sn.a ∧ Sn.a ≤ 10000 ∧ 0 ≤ Sn.p ∧ Sn.p < 4294967296 := ⟨hg.a0, by have := hg.a1; omega, hg.p0, hg.p1⟩
                      have ht0 := hg.q0 _ _ (due_cases hd).1
                      have ht1 := (due_cases hd).2
                      have HE : Hid (itN now (n + 1) S = fiT (tmQ Sn) { Sn with q := none }) := by show spT now (itN now n S) = _; rw [HSn.out, spT_yes hd]
                      go_wp2_with fail
                      with_reducible refine (ttake_yes hT3.ta hd).mono ?_
                      rintro e w5 ⟨rfl, v5, h5, c5⟩
                      have hT5 := (hT3.left h5 c5).alloc (.cells #[.int .i64 (tmQ Sn), .int .i64 d, .int .i64 (sqQ Sn)] 37)
                      clear hd hg hT3 h5 c5
                      go_wp2_with fail
                      with_reducible refine (fire_any (tmQ Sn) hT5.ta ⟨b0, by show Sn.a ≤ 1000000; omega⟩ hd0 hd1 ht0 (by omega) b2 b3).mono ?_
                      rintro e w6 ⟨rfl, v6, h6, c6⟩
                      have hT6 := hT5.left h6 c6
                      clear hT5 h6 c6
                      go_wp2_with fail
                      go_roundw
                      case rel => exact ⟨n + 1, v6, by omega, by go_num, by rw [HE.out]; exact hT6⟩
                      case measure => simp [intOf]; omega
                  · obtain rfl : n = 30 := by omega
                    go_wp2_with fail
                    go_meet
                    exact ⟨v', hT3⟩
              case rest =>
                clear hT1 hB1 c0
                obtain ⟨v1, hT1⟩ := hcut
                obtain ⟨SE, HSE⟩ : ∃ SE, Hid (itN now 30 S = SE) := ⟨_, rfl⟩
                rw [HSE.out] at hT1
                go_wp2_with fail
                go_loopw [20] (fun j wr => ∃ (n : Nat) (u' : Value), n ≤ 30 ∧ j = .int .i64 n ∧ Two w C o d wr t g v1 SE m u' (itN now n S)) (fun j _ => 30 - (intOf j).toNat)
                case atStart => exact ⟨0, u, by omega, rfl, hT1⟩
                case round =>
                  clear hT1
                  obtain ⟨n, u', hn, rfl, hT3⟩ := hrel
                  by_cases hlt : n < 30
                  · have z30 : (n : Int) < 30 := by omega
                    obtain ⟨Sn, HSn⟩ : ∃ Sn, Hid (itN now n S = Sn) := ⟨_, rfl⟩
                    rw [HSn.out] at hT3
                    cases hd : duB now Sn
                    · have HE : Hid (itN now (n + 1) S = Sn) := by show spT now (itN now n S) = _; rw [HSn.out, spT_no hd]
                      go_wp2_with fail
                      with_reducible refine (rtake_no hT3.tb hd).mono ?_
                      rintro e w5 ⟨rfl, u5, h5, c5⟩
                      have hT5 := (hT3.right h5 c5).alloc (.cells #[.int .i64 0, .int .i64 0, .int .i64 0] 37)
                      clear hd
                      go_wp2_with fail
                      go_roundw
                      case rel => exact ⟨n + 1, u5, by omega, by go_num, by rw [HE.out]; exact hT5⟩
                      case measure => simp [intOf]; omega
                    · have hg := HG.out.its (now := now) n
                      rw [HSn.out] at hg
                      obtain ⟨b0, b1, b2, b3⟩ : 0 ≤ Sn.a ∧ Sn.a ≤ 10000 ∧ 0 ≤ Sn.p ∧ Sn.p < 4294967296 := ⟨hg.a0, by have := hg.a1; omega, hg.p0, hg.p1⟩
                      have ht0 := hg.q0 _ _ (due_cases hd).1
                      have ht1 := (due_cases hd).2
                      have HE : Hid (itN now (n + 1) S = fiT (tmQ Sn) { Sn with q := none }) := by show spT now (itN now n S) = _; rw [HSn.out, spT_yes hd]
                      go_wp2_with fail
                      with_reducible refine (rtake_yes hT3.tb hd).mono ?_
                      rintro e w5 ⟨rfl, u5, h5, c5⟩
                      have hT5 := (hT3.right h5 c5).alloc (.cells #[.int .i64 (tmQ Sn), .int .i64 d, .int .i64 (sqQ Sn)] 37)
                      clear hd hg hT3 h5 c5
                      go_wp2_with fail
                      with_reducible refine (b1_any (tmQ Sn) (sqQ Sn) hT5.tb ho ⟨b0, by show Sn.a ≤ 1000000; omega⟩ ht0 (by omega) b2 b3).mono ?_
                      rintro e w6 ⟨rfl, u6, h6, c6⟩
                      have hT6 := hT5.right h6 c6
                      clear hT5 h6 c6
                      go_wp2_with fail
                      go_roundw
                      case rel => exact ⟨n + 1, u6, by omega, by go_num, by rw [HE.out]; exact hT6⟩
                      case measure => simp [intOf]; omega
                  · obtain rfl : n = 30 := by omega
                    rw [HSE.out] at hT3
                    have hg := HG.out.its (now := now) 30
                    rw [HSE.out] at hg
                    go_wp2_with fail
                    go_meet
                    exact ⟨now, v1, u', SE, rfl, hT3, n0, by omega, Lib.hid (hg.mono (by omega))⟩
            · have k03 : (kd == 3) = false := beq_false_of_ne k3
              by_cases k4 : kd = 4
              · subst k4
                have c3 := hB1.c3
                go_wp2_with fail
                with_reducible refine (within_any by_ 0 20 W2 (by omega) (by omega) (by omega) y0 y1).mono ?_
                rintro e w' ⟨z5, z50, z51, rfl, rfl⟩
                go_wp2_with fail
                go_meet
                exact ⟨_, v, u, S, rfl, hT1, by omega, by omega, Lib.hid (HG.out.mono (by omega))⟩
              · have k04 : (kd == 4) = false := beq_false_of_ne k4
                obtain ⟨WB, HWB⟩ : ∃ z, Hid (decide (kn < 3) = z) := ⟨_, rfl⟩
                go_wp2_with fail
                with_reducible refine (write_any kn _ xx now hT1.ta hkn rfl xx0 xx1 ⟨a0, by omega⟩ hd0 hd1 n0 hnb p0 p1).mono ?_
                rintro e w4 ⟨rfl, v4, h4, c4⟩
                rw [HWB.out]
                have hT4 := hT1.left h4 c4
                go_wp2_with fail
                with_reducible refine (rset_any kn _ xx now hT4.tb ho hkn rfl xx0 xx1 ⟨a0, by omega⟩ n0 hnb p0 p1).mono ?_
                rintro e w5 ⟨rfl, u5, h5, c5⟩
                rw [HWB.out]
                have hT5 := hT4.right h5 c5
                go_wp2_with fail
                go_meet
                exact ⟨now, v4, u5, _, rfl, hT5, n0, by omega, Lib.hid ((HG.out.write kn n0 xx0 xx1).mono hgk)⟩
        case rest =>
          clear hT1 hB1 c0 c1 c2 HG n0 n1
          obtain ⟨now2, v2, u2, S2, rfl, hT2, n0, n1, HG⟩ := hcut
          have hq := qL_len d S2.q
          obtain ⟨B, c, rfl, hc, hcm, hz, hA⟩ := (Wb.ev hT2.tb).form
          clear hz hA
          have hTd : Two w C o d wc.drew t g v2 S2 m (.slice B (qL d S2.q).length c) S2 := hT2.drewN 1
          have kc : wc.drew.cell? ⟨m, 1, none⟩ = some (.slice B (qL d S2.q).length c) := Wb.c0 hTd.tb
          obtain ⟨sb, HSB⟩ : ∃ sb, Hid (S2.s = sb) := ⟨_, rfl⟩
          go_wp2_with fail
          go_region_held3 (fun w' => w'.cell? ⟨m, 1, none⟩ = some (.slice B (qL d S2.q).length c)) (first | with_reducible exact kc | with_reducible exact k6 | with_reducible exact k7)
            (first
              | (go_at_call 15; (with_reducible refine (line_any hTd.ta).mono ?_); rintro e w4 ⟨rfl, rfl⟩; rw [HSB.out])
              | (go_at_call 22; (with_reducible refine (rline_any hTd.tb ho).mono ?_); rintro e w4 ⟨rfl, rfl⟩; rw [HSB.out])
              | (go_at_call 24; (with_reducible refine (all_any hTd.ta.wh (by omega)).mono ?_); rintro e w6 ⟨x6, rfl, hO6, hb6, hn6⟩; have hT6 := hTd.below hb6; have k6 := Wb.c0 hT6.tb)
              | (go_at_call 23; (with_reducible refine (same_any hO6 (Wb.ev hT6.tb) (by omega)).mono ?_); rintro e w7 ⟨rfl, n7, rfl⟩; have k7 := Wb.c0 (hT6.drewN n7).tb))
          have hT7 := hT6.drewN n7
          go_wp2_with fail
          go_roundw
          case rel => exact ⟨k + 1, now2, v2, _, S2, by omega, rfl, by go_num, hT7, n0, by omega, by rw [show 31 * ((k + 1 : Nat) : Int) = 31 * ((k : Int) + 1) by omega]; exact HG.out⟩
          case measure => simp [intOf]; omega
    · by_cases hx : k < len
      all_goals
        try (have hd : decide ((k : Int) < 80) = false := by simp; omega)
        clear hlt
        go_wp2
        go_ret
        exact ⟨rfl, hT.bl⟩
end Go.Proofs.Ytgpphbganpoinaa
