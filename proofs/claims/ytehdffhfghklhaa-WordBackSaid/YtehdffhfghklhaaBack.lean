/-
  The walks of WordBack, WordShifts and WordSums: each returns true, and nothing that was there has turned.
-/
import Derived.Test.YtehdffhfghklhaaSame
import Derived.OpenShut
namespace Go.Proofs.Ytehdffhfghklhaa
open Go.RowKit
set_option linter.unusedVariables false

set_option maxRecDepth 100000 in
set_option maxHeartbeats 1000000 in
theorem back_walk (a b : Int) (w : World) (h0 : 0 ≤ a) (h1 : a < 4294967296) (g0 : 0 ≤ b) (g1 : b < 4294967296) :
    Calls Try.prog 5 #[.int .u32 a, .int .u32 b] w (Tr w) := by
  go_enter Try.func5, Try.ntmps5
  go_wp2
  go_loopw [17] (fun i wr => ∃ k d : Nat, k ≤ 2 ∧ i = .int .i64 k ∧ wr = (w.alloc (.cells #[.bool false, .bool true] 4)).drewN d) (fun i _ => 2 - (intOf i).toNat)
  case atStart => exact ⟨0, 0, by omega, rfl, rfl⟩
  case round =>
    obtain ⟨k, d, hk, rfl, rfl⟩ := hrel
    have hcase : k = 0 ∨ k = 1 ∨ k = 2 := by omega
    rcases hcase with rfl | rfl | rfl
    · have MH := Lib.hid (W.mulH_comm b a false)
      have ML := Lib.hid (W.mulL_comm b a)
      have hL : a * b % 4294967296 = W.mulL a b := rfl
      by_cases hb : b = 0
      · have hbn : (b != 0) = false := by simpa using hb
        have D3 := W.divR_rng a b false h0 h1 g0 g1
        have HB := Lib.hid hb
        clear hb
        go_wp2_with fail
        refine (div_any _ _ _ _ (by omega) (by omega) (by omega) (by omega)).mono ?_
        rintro e w1 ⟨rfl, nd, rfl⟩
        cases hx : ((W.divQ a b false * b + W.divR a b false) % 4294967296 != a)
        all_goals
          go_wp2_with fail
          refine (mul_any _ _ _ _ (by omega) (by omega) (by omega) (by omega)).mono ?_
          rintro e w1 ⟨rfl, rfl⟩
          go_wp2_with fail
          refine (mul_any _ _ _ _ (by omega) (by omega) (by omega) (by omega)).mono ?_
          rintro e w1 ⟨rfl, rfl⟩
          rw [MH.out, ML.out]
          go_wp2
          go_roundw
          case rel => exact ⟨1, _, by omega, rfl, rfl⟩
          case measure => simp [intOf]
      · have D1 : ((W.divQ a b false * b + W.divR a b false) % 4294967296 != a) = false := by rw [W.div_back a b false h0 h1 hb]; simp
        have D2 := W.divR_lt a b g0 hb
        have D3 := W.divR_rng a b false h0 h1 g0 g1
        have hbn : (b != 0) = true := by simpa using hb
        go_wp2_with fail
        refine (div_any _ _ _ _ (by omega) (by omega) (by omega) (by omega)).mono ?_
        rintro e w1 ⟨rfl, nd, rfl⟩
        go_wp2_with fail
        refine (mul_any _ _ _ _ (by omega) (by omega) (by omega) (by omega)).mono ?_
        rintro e w1 ⟨rfl, rfl⟩
        go_wp2_with fail
        refine (mul_any _ _ _ _ (by omega) (by omega) (by omega) (by omega)).mono ?_
        rintro e w1 ⟨rfl, rfl⟩
        rw [MH.out, ML.out]
        go_wp2
        go_roundw
        case rel => exact ⟨1, _, by omega, rfl, rfl⟩
        case measure => simp [intOf]
    · have MH := Lib.hid (W.mulH_comm b a true)
      have ML := Lib.hid (W.mulL_comm b a)
      have hL : a * b % 4294967296 = W.mulL a b := rfl
      by_cases hb : b = 0
      · have hbn : (b != 0) = false := by simpa using hb
        have D3 := W.divR_rng a b true h0 h1 g0 g1
        have HB := Lib.hid hb
        clear hb
        go_wp2_with fail
        refine (div_any _ _ _ _ (by omega) (by omega) (by omega) (by omega)).mono ?_
        rintro e w1 ⟨rfl, nd, rfl⟩
        cases hx : ((W.divQ a b true * b + W.divR a b true) % 4294967296 != a)
        all_goals
          go_wp2_with fail
          refine (mul_any _ _ _ _ (by omega) (by omega) (by omega) (by omega)).mono ?_
          rintro e w1 ⟨rfl, rfl⟩
          go_wp2_with fail
          refine (mul_any _ _ _ _ (by omega) (by omega) (by omega) (by omega)).mono ?_
          rintro e w1 ⟨rfl, rfl⟩
          rw [MH.out, ML.out]
          go_wp2
          go_roundw
          case rel => exact ⟨2, _, by omega, rfl, rfl⟩
          case measure => simp [intOf]
      · have D1 : ((W.divQ a b true * b + W.divR a b true) % 4294967296 != a) = false := by rw [W.div_back a b true h0 h1 hb]; simp
        have D3 := W.divR_rng a b true h0 h1 g0 g1
        have hbn : (b != 0) = true := by simpa using hb
        go_wp2_with fail
        refine (div_any _ _ _ _ (by omega) (by omega) (by omega) (by omega)).mono ?_
        rintro e w1 ⟨rfl, nd, rfl⟩
        go_wp2_with fail
        refine (mul_any _ _ _ _ (by omega) (by omega) (by omega) (by omega)).mono ?_
        rintro e w1 ⟨rfl, rfl⟩
        go_wp2_with fail
        refine (mul_any _ _ _ _ (by omega) (by omega) (by omega) (by omega)).mono ?_
        rintro e w1 ⟨rfl, rfl⟩
        rw [MH.out, ML.out]
        go_wp2
        go_roundw
        case rel => exact ⟨2, _, by omega, rfl, rfl⟩
        case measure => simp [intOf]
    · by_cases hb : b = 0
      · have hbn : (b == 0) = true := by simpa using hb
        have HB := Lib.hid hb
        clear hb
        go_wp2_with fail
        refine (div_any _ _ _ _ (by omega) (by omega) (by omega) (by omega)).mono ?_
        rintro e w1 ⟨rfl, nd, rfl⟩
        go_wp2_with fail
        refine (known_any _).mono ?_
        rintro e w7 ⟨rfl, nd, rfl⟩
        go_wp2
        go_ret
        exact ⟨rfl, g_drewN ((Grown.refl _).alloc _ _) _⟩
      · have D3 := W.divR_rng a b true h0 h1 g0 g1
        have hbn : (b == 0) = false := by simpa using hb
        have S := W.divR_sign a b h0 h1 hb
        by_cases hr : W.divR a b true = 0
        · have hrb : (W.divR a b true == 0) = true := by simpa using hr
          clear S hr
          go_wp2_with fail
          refine (div_any _ _ _ _ (by omega) (by omega) (by omega) (by omega)).mono ?_
          rintro e w1 ⟨rfl, nd, rfl⟩
          go_wp2_with fail
          refine (known_any _).mono ?_
          rintro e w7 ⟨rfl, nd, rfl⟩
          go_wp2
          go_ret
          exact ⟨rfl, g_drewN ((Grown.refl _).alloc _ _) _⟩
        · have hrb : (W.divR a b true == 0) = false := by simpa using hr
          have hs : (W.divR a b true / 2147483648 == a / 2147483648) = true := by
            rcases S with S | S
            · exact absurd S hr
            · simpa using S
          clear S hr
          go_wp2_with fail
          refine (div_any _ _ _ _ (by omega) (by omega) (by omega) (by omega)).mono ?_
          rintro e w1 ⟨rfl, nd, rfl⟩
          go_wp2_with fail
          refine (known_any _).mono ?_
          rintro e w7 ⟨rfl, nd, rfl⟩
          go_wp2
          go_ret
          exact ⟨rfl, g_drewN ((Grown.refl _).alloc _ _) _⟩
end Go.Proofs.Ytehdffhfghklhaa
