/-
  The walks of WordShifts and WordSums: each returns true, and nothing that was there has turned.
-/
import Derived.Test.YtehdffhfghklhaaSame
import Derived.Test.YtehdffhfghklhaaWord2
import Derived.OpenShut
namespace Go.Proofs.Ytehdffhfghklhaa
open Go.RowKit
set_option linter.unusedVariables false

theorem tmod16 (n : Int) : -15 ≤ n.tmod 16 ∧ n.tmod 16 ≤ 15 ∧ n.tmod 16 % 16 = n % 16 := by
  by_cases h : 0 ≤ n
  · rw [Int.tmod_eq_emod_of_nonneg h]; omega
  · have e : n.tmod 16 = -((-n) % 16) := by rw [← Int.tmod_eq_emod_of_nonneg (by omega), Int.neg_tmod]; omega
    rw [e]; omega
theorem tmod31 (n : Int) : -30 ≤ n.tmod 31 ∧ n.tmod 31 ≤ 30 ∧ n.tmod 31 % 31 = n % 31 := by
  by_cases h : 0 ≤ n
  · rw [Int.tmod_eq_emod_of_nonneg h]; omega
  · have e : n.tmod 31 = -((-n) % 31) := by rw [← Int.tmod_eq_emod_of_nonneg (by omega), Int.neg_tmod]; omega
    rw [e]; omega

set_option maxRecDepth 100000 in
set_option maxHeartbeats 1000000 in
theorem sums_walk (a b c : Int) (w : World) (h0 : 0 ≤ a) (h1 : a < 4294967296) (g0 : 0 ≤ b) (g1 : b < 4294967296) (f0 : 0 ≤ c) (f1 : c < 4294967296) :
    Calls Try.prog 7 #[.int .u32 a, .int .u32 b, .int .u32 c] w (Tr w) := by
  have O := W.over_is a b h0 h1 g0 g1
  have U := W.under_is a b h0 h1 g0 g1
  go_enter Try.func7, Try.ntmps7
  go_wp2
  have HO := Lib.hid O
  have HU := Lib.hid U
  clear O U
  go_loopw [39] (fun i wr => ∃ k d : Nat, k ≤ 2 ∧ i = .int .i64 k ∧ wr = (w.alloc (.cells #[.bool false, .bool true] 4)).drewN d) (fun i _ => 2 - (intOf i).toNat)
  case atStart => exact ⟨0, 0, by omega, rfl, rfl⟩
  case round =>
    obtain ⟨k, d, hk, rfl, rfl⟩ := hrel
    have hcase : k = 0 ∨ k = 1 ∨ k = 2 := by omega
    rcases hcase with rfl | rfl | rfl
    · rcases Int.lt_trichotomy (wideS a false) (wideS b false) with q | q | q
      · have e1 : decide (wideS a false < wideS b false) = true := by simpa using q
        have e2 : decide (wideS b false < wideS a false) = false := by simp; omega
        have e3 : (a != b) = true := by simp; rintro rfl; omega
        by_cases r : wideS b false < wideS c false
        · have e4 : decide (wideS b false < wideS c false) = true := by simpa using r
          have e5 : decide (wideS a false < wideS c false) = true := by simp; omega
          clear q r
          go_wp2_with (go_at_call 17; refine (less_any _ _ _ _ (by omega) (by omega) (by omega) (by omega)).mono ?_; rintro e w' ⟨rfl, rfl⟩)
          go_roundw
          case rel => exact ⟨1, _, by omega, rfl, rfl⟩
          case measure => simp [intOf]
        · have e4 : decide (wideS b false < wideS c false) = false := by simpa using r
          clear q r
          go_wp2_with (go_at_call 17; refine (less_any _ _ _ _ (by omega) (by omega) (by omega) (by omega)).mono ?_; rintro e w' ⟨rfl, rfl⟩)
          go_roundw
          case rel => exact ⟨1, _, by omega, rfl, rfl⟩
          case measure => simp [intOf]
      · have e1 : decide (wideS a false < wideS b false) = false := by simp; omega
        have e2 : decide (wideS b false < wideS a false) = false := by simp; omega
        have e3 : (a != b) = false := by simp; exact W.wideS_inj a b false h0 h1 g0 g1 q
        clear q
        go_wp2_with (go_at_call 17; refine (less_any _ _ _ _ (by omega) (by omega) (by omega) (by omega)).mono ?_; rintro e w' ⟨rfl, rfl⟩)
        go_roundw
        case rel => exact ⟨1, _, by omega, rfl, rfl⟩
        case measure => simp [intOf]
      · have e1 : decide (wideS a false < wideS b false) = false := by simp; omega
        have e2 : decide (wideS b false < wideS a false) = true := by simpa using q
        have e3 : (a != b) = true := by simp; rintro rfl; omega
        clear q
        go_wp2_with (go_at_call 17; refine (less_any _ _ _ _ (by omega) (by omega) (by omega) (by omega)).mono ?_; rintro e w' ⟨rfl, rfl⟩)
        go_roundw
        case rel => exact ⟨1, _, by omega, rfl, rfl⟩
        case measure => simp [intOf]
    · rcases Int.lt_trichotomy (wideS a true) (wideS b true) with q | q | q
      · have e1 : decide (wideS a true < wideS b true) = true := by simpa using q
        have e2 : decide (wideS b true < wideS a true) = false := by simp; omega
        have e3 : (a != b) = true := by simp; rintro rfl; omega
        by_cases r : wideS b true < wideS c true
        · have e4 : decide (wideS b true < wideS c true) = true := by simpa using r
          have e5 : decide (wideS a true < wideS c true) = true := by simp; omega
          clear q r
          go_wp2_with (go_at_call 17; refine (less_any _ _ _ _ (by omega) (by omega) (by omega) (by omega)).mono ?_; rintro e w' ⟨rfl, rfl⟩)
          go_roundw
          case rel => exact ⟨2, _, by omega, rfl, rfl⟩
          case measure => simp [intOf]
        · have e4 : decide (wideS b true < wideS c true) = false := by simpa using r
          clear q r
          go_wp2_with (go_at_call 17; refine (less_any _ _ _ _ (by omega) (by omega) (by omega) (by omega)).mono ?_; rintro e w' ⟨rfl, rfl⟩)
          go_roundw
          case rel => exact ⟨2, _, by omega, rfl, rfl⟩
          case measure => simp [intOf]
      · have e1 : decide (wideS a true < wideS b true) = false := by simp; omega
        have e2 : decide (wideS b true < wideS a true) = false := by simp; omega
        have e3 : (a != b) = false := by simp; exact W.wideS_inj a b true h0 h1 g0 g1 q
        clear q
        go_wp2_with (go_at_call 17; refine (less_any _ _ _ _ (by omega) (by omega) (by omega) (by omega)).mono ?_; rintro e w' ⟨rfl, rfl⟩)
        go_roundw
        case rel => exact ⟨2, _, by omega, rfl, rfl⟩
        case measure => simp [intOf]
      · have e1 : decide (wideS a true < wideS b true) = false := by simp; omega
        have e2 : decide (wideS b true < wideS a true) = true := by simpa using q
        have e3 : (a != b) = true := by simp; rintro rfl; omega
        clear q
        go_wp2_with (go_at_call 17; refine (less_any _ _ _ _ (by omega) (by omega) (by omega) (by omega)).mono ?_; rintro e w' ⟨rfl, rfl⟩)
        go_roundw
        case rel => exact ⟨2, _, by omega, rfl, rfl⟩
        case measure => simp [intOf]
    · go_wp2_with fail
      refine (over_any _ _ _ _ (by omega) (by omega) (by omega) (by omega)).mono ?_
      rintro e w1 ⟨rfl, rfl⟩
      go_wp2_with fail
      refine (over_any _ _ _ _ (by omega) (by omega) (by omega) (by omega)).mono ?_
      rintro e w1 ⟨rfl, rfl⟩
      go_wp2_with fail
      refine (known_any _).mono ?_
      rintro e w7 ⟨rfl, nd, rfl⟩
      go_wp2
      go_ret
      exact ⟨rfl, g_drewN ((Grown.refl _).alloc _ _) _⟩

set_option maxRecDepth 100000 in
set_option maxHeartbeats 1000000 in
theorem shifts_walk (v n m : Int) (w : World) (h0 : 0 ≤ v) (h1 : v < 4294967296) (n0 : -9223372036854775808 ≤ n) (n1 : n ≤ 9223372036854775807) (m0 : -9223372036854775808 ≤ m) (m1 : m ≤ 9223372036854775807) :
    Calls Try.prog 6 #[.int .u32 v, .int .i64 n, .int .i64 m] w (Tr w) := by
  obtain ⟨a0, a1, a2⟩ := tmod16 n
  obtain ⟨b0, b1, b2⟩ := tmod16 m
  obtain ⟨c0, c1, c2⟩ := tmod31 n
  have d0 : 0 ≤ n % 16 := by omega
  have d1 : n % 16 < 16 := by omega
  have e0 : 0 ≤ m % 16 := by omega
  have e1 : m % 16 < 16 := by omega
  have f0 : 0 ≤ n % 31 := by omega
  have f1 : n % 31 < 31 := by omega
  have N := Lib.hid (not32 v h0 h1)
  have NN := Lib.hid (show W.clz (4294967295 - (4294967295 - v)) = W.clz v by congr 1; omega)
  have SS := Lib.hid (W.sar_sar v (n % 16) (m % 16) d0 d1 e0 e1)
  have SR := W.sar_rng v (n % 16)
  have GG := Lib.hid (W.sign_sign v (1 + n % 31) (by omega) (by omega))
  have GR := W.sign_rng v (1 + n % 31) h0 h1
  by_cases hv : v = 0
  · subst hv
    have hc := Lib.hid (show W.clz 0 = 32 by simp [W.clz, W.blen])
    go_enter Try.func6, Try.ntmps6
    go_wp2_with fail
    refine (clz_any _ _ (by omega) (by omega)).mono ?_
    rintro e w1 ⟨rfl, rfl⟩
    rw [hc.out]
    go_wp2_with fail
    rw [N.out]
    refine (clo_any _ _ (by omega) (by omega)).mono ?_
    rintro e w1 ⟨rfl, rfl⟩
    rw [NN.out, hc.out]
    go_wp2_with fail
    refine (sar_any _ _ _ (by omega) (by omega)).mono ?_
    rintro e w1 ⟨rfl, rfl⟩
    go_wp2_with fail
    refine (sar_any _ _ _ (by omega) (by omega)).mono ?_
    rintro e w1 ⟨rfl, rfl⟩
    rw [SS.out]
    go_wp2_with fail
    refine (sar_any _ _ _ (by omega) (by omega)).mono ?_
    rintro e w1 ⟨rfl, rfl⟩
    go_wp2_with fail
    refine (sign_any _ _ _ (by omega) (by omega)).mono ?_
    rintro e w1 ⟨rfl, rfl⟩
    go_wp2_with fail
    refine (sign_any _ _ _ (by omega) (by omega)).mono ?_
    rintro e w1 ⟨rfl, rfl⟩
    rw [GG.out]
    go_wp2_with fail
    refine (sign_any _ _ _ (by omega) (by omega)).mono ?_
    rintro e w1 ⟨rfl, rfl⟩
    go_wp2_with fail
    refine (known_any _).mono ?_
    rintro e w7 ⟨rfl, nd, rfl⟩
    go_wp2
    go_ret
    exact ⟨rfl, g_drewN (Grown.refl _) _⟩
  · obtain ⟨k0, k1, k2⟩ := W.clz_shift v (by omega) h1
    have K := Lib.hid k2
    have kb : (v / 2 ^ (31 - W.clz v).toNat != 1) = false := by rw [k2]; rfl
    have kd : decide (W.clz v < 32) = true := by simpa using k1
    have ke : (W.clz v == 32) = false := by simp; omega
    clear k2
    go_enter Try.func6, Try.ntmps6
    go_wp2_with fail
    refine (clz_any _ _ (by omega) (by omega)).mono ?_
    rintro e w1 ⟨rfl, rfl⟩
    go_wp2_with fail
    rw [N.out]
    refine (clo_any _ _ (by omega) (by omega)).mono ?_
    rintro e w1 ⟨rfl, rfl⟩
    rw [NN.out]
    go_wp2_with fail
    refine (sar_any _ _ _ (by omega) (by omega)).mono ?_
    rintro e w1 ⟨rfl, rfl⟩
    go_wp2_with fail
    refine (sar_any _ _ _ (by omega) (by omega)).mono ?_
    rintro e w1 ⟨rfl, rfl⟩
    rw [SS.out]
    go_wp2_with fail
    refine (sar_any _ _ _ (by omega) (by omega)).mono ?_
    rintro e w1 ⟨rfl, rfl⟩
    go_wp2_with fail
    refine (sign_any _ _ _ (by omega) (by omega)).mono ?_
    rintro e w1 ⟨rfl, rfl⟩
    go_wp2_with fail
    refine (sign_any _ _ _ (by omega) (by omega)).mono ?_
    rintro e w1 ⟨rfl, rfl⟩
    rw [GG.out]
    go_wp2_with fail
    refine (sign_any _ _ _ (by omega) (by omega)).mono ?_
    rintro e w1 ⟨rfl, rfl⟩
    go_wp2_with fail
    refine (known_any _).mono ?_
    rintro e w7 ⟨rfl, nd, rfl⟩
    go_wp2
    go_ret
    exact ⟨rfl, g_drewN (Grown.refl _) _⟩
end Go.Proofs.Ytehdffhfghklhaa
