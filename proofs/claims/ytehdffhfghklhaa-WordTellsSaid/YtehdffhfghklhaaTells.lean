/-
  The walks of WordNumbers and WordTells: each returns true, and nothing that was there has turned.
-/
import Derived.Test.YtehdffhfghklhaaSame
import Derived.OpenShut
namespace Go.Proofs.Ytehdffhfghklhaa
open Go.RowKit
set_option linter.unusedVariables false

theorem shr_rng (a n : Int) (h0 : 0 ≤ a) (h1 : a < 4294967296) : 0 ≤ a / 2 ^ n.toNat ∧ a / 2 ^ n.toNat < 4294967296 := by
  have := Int.ediv_le_self (2 ^ n.toNat) h0
  have := Int.ediv_nonneg h0 (Int.le_of_lt (Int.pow_pos (n := 2) (m := n.toNat) (by omega)))
  omega

set_option maxRecDepth 100000 in
set_option maxHeartbeats 400000 in
theorem tells_walk (a b n i k : Int) (w : World) (h0 : 0 ≤ a) (h1 : a < 4294967296) (g0 : 0 ≤ b) (g1 : b < 4294967296) (n0 : -9223372036854775808 ≤ n) (n1 : n ≤ 9223372036854775807) (k0 : -9223372036854775808 ≤ k) (k1 : k ≤ 9223372036854775807) :
    Calls Try.prog 4 #[.int .u32 a, .int .u32 b, .int .i64 n, .int .i64 i, .int .i64 k] w (Tr w) := by
  have c0 : 0 ≤ n % 32 := by omega
  have c1 : n % 32 < 32 := by omega
  have d0 : 0 ≤ i % 32 := by omega
  have d1 : i % 32 < 32 := by omega
  have hn := W.and31 n
  have hi := W.and31 i
  obtain ⟨p0, p1⟩ := shr_rng a (n % 32) h0 h1
  obtain ⟨q0, q1⟩ := shr_rng b (i % 32) g0 g1
  go_enter Try.func4, Try.ntmps4
  go_wp2_with fail
  refine (same_any _ _ _ _ (by omega) (by omega) (by omega) (by omega) (by omega) (by omega)).mono ?_
  rintro e w1 ⟨rfl, G1⟩
  go_wp2_with fail
  refine (edge_any _ _).mono ?_
  rintro e w2 ⟨v2, v20, v21, rfl, G2⟩
  go_wp2_with fail
  refine (same_any _ _ _ _ (by omega) (by omega) (by omega) (by omega) (by omega) (by omega)).mono ?_
  rintro e w3 ⟨rfl, G3⟩
  go_wp2_with fail
  refine (edge_any _ _).mono ?_
  rintro e w4 ⟨v4, v40, v41, rfl, G4⟩
  go_wp2_with fail
  refine (same_any _ _ _ _ (by omega) (by omega) (by omega) (by omega) (by omega) (by omega)).mono ?_
  rintro e w5 ⟨rfl, G5⟩
  go_wp2_with fail
  refine (same_any _ _ _ _ (by omega) (by omega) (by omega) (by omega) (by omega) (by omega)).mono ?_
  rintro e w6 ⟨rfl, G6⟩
  go_wp2_with fail
  refine (known_any _).mono ?_
  rintro e w7 ⟨rfl, nd, rfl⟩
  go_wp2
  go_ret
  exact ⟨rfl, g_drewN (g_trans (g_trans (g_trans (g_trans (g_trans G1 G2) G3) G4) G5) G6) _⟩

set_option maxRecDepth 100000 in
set_option maxHeartbeats 400000 in
theorem numbers_walk (w : World) : Calls Try.prog 3 #[] w (Tr w) := by
  go_enter Try.func3, Try.ntmps3
  go_wp2
  go_loopw [1] (fun i wr => ∃ k : Nat, k ≤ 20 ∧ i = .int .i64 k ∧ Grown w wr) (fun i _ => 20 - (intOf i).toNat)
  case atStart => exact ⟨0, by omega, rfl, Grown.refl _⟩
  case round =>
    obtain ⟨k, hk, rfl, hg⟩ := hrel
    by_cases hlt : k < 20
    · have hkd : decide ((k : Int) < 20) = true := by simp; omega
      go_wp2
      go_loopw [2] (fun i wr => ∃ j : Nat, j ≤ 20 ∧ i = .int .i64 j ∧ Grown w wr) (fun i _ => 20 - (intOf i).toNat)
      case atStart => exact ⟨0, by omega, rfl, hg⟩
      case round =>
        obtain ⟨j, hj, rfl, hg2⟩ := hrel
        by_cases hlj : j < 20
        · go_wp2_with fail
          refine (edge_any _ _).mono ?_
          rintro e w2 ⟨v2, v20, v21, rfl, G2⟩
          go_wp2_with fail
          refine (edge_any _ _).mono ?_
          rintro e w3 ⟨v3, v30, v31, rfl, G3⟩
          go_wp2_with fail
          refine (same_any _ _ _ _ (by omega) (by omega) (by omega) (by omega) (by omega) (by omega)).mono ?_
          rintro e w4 ⟨rfl, G4⟩
          go_wp2
          go_roundw
          case rel => exact ⟨j + 1, by omega, by go_num, g_trans (g_trans (g_trans hg2 G2) G3) G4⟩
          case measure => simp [intOf]; omega
        · have hjd : decide ((j : Int) < 20) = false := by simp; omega
          go_wp2
          go_loopw [3] (fun i wr => ∃ m : Int, -40 ≤ m ∧ m ≤ 70 ∧ i = .int .i64 m ∧ Grown w wr) (fun i _ => (70 - intOf i).toNat)
          case atStart => exact ⟨-40, by omega, by omega, rfl, hg2⟩
          case round =>
            obtain ⟨m, m0, m1, rfl, hg3⟩ := hrel
            by_cases hlm : m < 70
            · go_wp2_with fail
              refine (edge_any _ _).mono ?_
              rintro e w2 ⟨v2, v20, v21, rfl, G2⟩
              go_wp2_with fail
              refine (same_any _ _ _ _ (by omega) (by omega) (by omega) (by omega) (by omega) (by omega)).mono ?_
              rintro e w4 ⟨rfl, G4⟩
              go_wp2
              go_roundw
              case rel => exact ⟨m + 1, by omega, by omega, by go_num, g_trans (g_trans hg3 G2) G4⟩
              case measure => simp [intOf]; omega
            · go_wp2
              go_roundw
              case rel => exact ⟨k + 1, by omega, by go_num, hg3⟩
              case measure => simp [intOf]; omega
    · go_wp2_with fail
      refine (known_any _).mono ?_
      rintro e w7 ⟨rfl, nd, rfl⟩
      go_wp2
      go_ret
      exact ⟨rfl, g_drewN hg _⟩
end Go.Proofs.Ytehdffhfghklhaa
