/-
  Chapter 4: the walks of AluPairs and AluImms: each returns true, and nothing that was there has turned.
-/
import Derived.Test.YtfdgmenlefojbaaAluS
namespace Go.Proofs.Ytfdgmenlefojbaa
open Go.RowKit
set_option linter.unusedVariables false

theorem xor_rng (s t : Int) (s0 : 0 ≤ s) (s1 : s < 4294967296) (t0 : 0 ≤ t) (t1 : t < 4294967296) : 0 ≤ bits .xor .u32 s t ∧ bits .xor .u32 s t < 4294967296 ∧ bits .xor .u32 (bits .xor .u32 s t) t = s := by
  obtain ⟨a, rfl⟩ := Int.eq_ofNat_of_zero_le s0
  obtain ⟨b, rfl⟩ := Int.eq_ofNat_of_zero_le t0
  have ha : a < 2 ^ 32 := by omega
  have hb : b < 2 ^ 32 := by omega
  have hx := Nat.xor_lt_two_pow ha hb
  rw [Go.u32_xor_nat _ _ (by omega) (by omega)]
  refine ⟨by omega, by omega, ?_⟩
  rw [Go.u32_xor_nat _ _ (by omega) (by omega), Nat.xor_assoc, Nat.xor_self, Nat.xor_zero]
theorem w32_inj (s t : Int) (s0 : 0 ≤ s) (s1 : s < 4294967296) (t0 : 0 ≤ t) (t1 : t < 4294967296) : wrap32 s = wrap32 t → s = t := by
  unfold wrap32; omega
/-- how two words lie, with their signs -/
theorem three (s t : Int) (s0 : 0 ≤ s) (s1 : s < 4294967296) (t0 : 0 ≤ t) (t1 : t < 4294967296) :
    (nv 30 0 0 s t = 0 ∧ nv 30 0 0 t s = 0 ∧ (s == t) = true) ∨ (nv 30 0 0 s t = 1 ∧ nv 30 0 0 t s = 0 ∧ (s == t) = false) ∨ (nv 30 0 0 s t = 0 ∧ nv 30 0 0 t s = 1 ∧ (s == t) = false) := by
  have e1 : nv 30 0 0 s t = if wrap32 s < wrap32 t then 1 else 0 := by simp [nv, b2i, wideS]
  have e2 : nv 30 0 0 t s = if wrap32 t < wrap32 s then 1 else 0 := by simp [nv, b2i, wideS]
  rw [e1, e2]
  have h := w32_inj s t s0 s1 t0 t1
  have r : s = t → wrap32 s = wrap32 t := fun e => by rw [e]
  simp only [beq_iff_eq, beq_eq_false_iff_ne]
  split <;> split <;> omega

set_option maxRecDepth 100000 in
set_option maxHeartbeats 4000000 in
theorem pairs_walk (s t n : Int) (w : World) (s0 : 0 ≤ s) (s1 : s < 4294967296) (t0 : 0 ≤ t) (t1 : t < 4294967296) : Calls Try.prog 5 #[.int .u32 s, .int .u32 t, .int .i64 n] w (TrB w) := by
  obtain ⟨m0, m1, m2⟩ := tmod32 n
  have k0 : 0 ≤ n % 32 := by omega
  have k1 : n % 32 < 32 := by omega
  have A := Lib.hid (show nv 23 0 0 s t = (s + t) % 4294967296 from rfl)
  have B := Lib.hid (show nv 25 0 0 ((s + t) % 4294967296) t = s by show (_ - _) % _ = _; omega)
  have C := Lib.hid (show nv 1 (n % 32) 0 0 t = t * 2 ^ (n % 32).toNat % 4294967296 by show t * 2 ^ (n % 32 % 32).toNat % _ = _; rw [show n % 32 % 32 = n % 32 by omega])
  have D := Lib.hid (show nv 2 (n % 32) 0 0 (t * 2 ^ (n % 32).toNat % 4294967296) = t * 2 ^ (n % 32).toNat % 4294967296 / 2 ^ (n % 32).toNat by show _ / 2 ^ (n % 32 % 32).toNat = _; rw [show n % 32 % 32 = n % 32 by omega])
  obtain ⟨g0, g1, g2⟩ := xor_rng s t s0 s1 t0 t1
  have G := Lib.hid (show nv 28 0 0 s t = bits .xor .u32 s t from rfl)
  have H := Lib.hid (show nv 28 0 0 (bits .xor .u32 s t) t = s from g2)
  clear g2
  have CD := Lib.hid (fun (k h : Int) => do_any k 0 0 0 h 0)
  rcases three s t s0 s1 t0 t1 with ⟨e1, e2, e3⟩ | ⟨e1, e2, e3⟩ | ⟨e1, e2, e3⟩
  all_goals
    have E1 := Lib.hid e1
    have E2 := Lib.hid e2
    clear e1 e2
    go_enter Try.func5, Try.ntmps5
    go_wp2_with fail
    refine (do23 _ _ _ _ _ _ _ _ s0 s1 t0 t1 (by omega) (by omega)).mono ?_
    rintro e w1 ⟨rfl, hb1⟩
    rw [A.out]
    go_wp2_with fail
    refine (do25 _ _ _ _ _ _ _ _ (by omega) (by omega) t0 t1 (by omega) (by omega)).mono ?_
    rintro e w2 ⟨rfl, hb2⟩
    rw [B.out]
    go_wp2_with fail
    refine (do1 _ _ _ _ _ _ _ _ (by omega) (by omega) t0 t1 (by omega) (by omega)).mono ?_
    rintro e w3 ⟨rfl, hb3⟩
    rw [C.out]
    go_wp2_with fail
    refine (do2 _ _ _ _ _ _ _ _ (by omega) (by omega) (by omega) (by omega) (by omega) (by omega)).mono ?_
    rintro e w4 ⟨rfl, hb4⟩
    rw [D.out]
    go_wp2_with fail
    refine (do30 _ _ _ _ _ _ _ _ s0 s1 t0 t1 (by omega) (by omega)).mono ?_
    rintro e w5 ⟨rfl, hb5⟩
    rw [E1.out]
    go_wp2_with fail
    refine (do30 _ _ _ _ _ _ _ _ t0 t1 s0 s1 (by omega) (by omega)).mono ?_
    rintro e w6 ⟨rfl, hb6⟩
    rw [E2.out]
    go_wp2_with fail
    refine (do28 _ _ _ _ _ _ _ _ s0 s1 t0 t1 (by omega) (by omega)).mono ?_
    rintro e w7 ⟨rfl, hb7⟩
    rw [G.out]
    go_wp2_with fail
    refine (do28 _ _ _ _ _ _ _ _ g0 g1 t0 t1 (by omega) (by omega)).mono ?_
    rintro e w8 ⟨rfl, hb8⟩
    rw [H.out]
    go_wp2_with fail
    refine (known_any _).mono ?_
    rintro e w9 ⟨rfl, hb9⟩
    go_wp2
    go_ret
    exact ⟨rfl, band (band (band (band (band (band (band (band hb1 hb2) hb3) hb4) hb5) hb6) hb7) hb8) hb9⟩
end Go.Proofs.Ytfdgmenlefojbaa
