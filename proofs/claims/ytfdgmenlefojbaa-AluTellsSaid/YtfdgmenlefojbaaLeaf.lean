/-
  The functions of package word and of the document's own answers (chapter 1), each called with whatever words: what it returns (a function of XWord), and that nothing in memory turns.
-/
import Derived.Test.YtfdgmenlefojbaaRows
import Derived.Test.YtfdgmenlefojbaaWord
import Derived.WalkKit
import Derived.WalkSpells
import Derived.Deep.QuietTactic
import Derived.BigQuiet
import Derived.Lib.Hide
namespace Go.Proofs.Ytfdgmenlefojbaa
open Go.RowKit
set_option linter.unusedVariables false

/-- it returns v, and the world has at most made draws -/
def Dr (v : Value) (w : World) (e : Ending) (w' : World) : Prop := e = .returned v ∧ ∃ n, w' = w.drewN n
theorem ret_int {k : IntKind} {a b : Int} (h : a = b) : Ending.returned (.int k a) = .returned (.int k b) := by rw [h]
theorem ret_two {k : IntKind} {a b c d : Int} (h : a = c) (g : b = d) : Ending.returned (.tuple #[.int k a, .int k b]) = .returned (.tuple #[.int k c, .int k d]) := by rw [h, g]
theorem ret_bool {a b : Bool} (h : a = b) : Ending.returned (.bool a) = .returned (.bool b) := by rw [h]

def wideS (a : Int) (s : Bool) : Int := if s then wrap32 a else a

set_option maxHeartbeats 400000 in
theorem wide_any (a : Int) (w : World) (h0 : 0 ≤ a) (h1 : a < 4294967296) :
    Calls Try.prog 46 #[.int .u32 a] w fun e w' => e = .returned (.int .i64 (wrap32 a)) ∧ w = w' := by
  have l := W.w32_lo a
  have u := W.w32_hi a
  go_enter Try.func46, Try.ntmps46
  go_wp2
  go_ret
  exact ⟨rfl, rfl⟩

set_option maxHeartbeats 400000 in
theorem rwide_any (a : Int) (s : Bool) (w : World) (h0 : 0 ≤ a) (h1 : a < 4294967296) :
    Calls Try.prog 48 #[.int .u32 a, .bool s] w fun e w' => e = .returned (.int .i64 (wideS a s)) ∧ w = w' := by
  cases s
  · go_enter Try.func48, Try.ntmps48
    go_wp2
    go_ret
    exact ⟨rfl, rfl⟩
  · by_cases h : 2147483648 ≤ a
    · go_enter Try.func48, Try.ntmps48
      go_wp2
      go_ret
      exact ⟨ret_int (by simp [wideS]; unfold wrap32; omega), rfl⟩
    · go_enter Try.func48, Try.ntmps48
      go_wp2
      go_ret
      exact ⟨ret_int (by simp [wideS]; unfold wrap32; omega), rfl⟩

set_option maxHeartbeats 400000 in
theorem sar_any (v n : Int) (w : World) (h0 : 0 ≤ v) (h1 : v < 4294967296) :
    Calls Try.prog 24 #[.int .u32 v, .int .i64 n] w fun e w' => e = .returned (.int .u32 (W.sar v n)) ∧ w = w' := by
  have hb := W.and31 n
  have hr0 : 0 ≤ n % 32 := by omega
  have hr1 : n % 32 < 32 := by omega
  go_enter Try.func24, Try.ntmps24
  go_wp2
  go_ret
  exact ⟨rfl, rfl⟩

set_option maxHeartbeats 400000 in
theorem sign_any (v n : Int) (w : World) (h0 : 0 ≤ v) (h1 : v < 4294967296) :
    Calls Try.prog 45 #[.int .u32 v, .int .i64 n] w fun e w' => e = .returned (.int .u32 (W.sign v n)) ∧ w = w' := by
  by_cases a : n < 1
  · have H := Lib.hid (show W.sign v n = 0 by simp [W.sign, a])
    go_enter Try.func45, Try.ntmps45
    go_wp2
    go_ret
    exact ⟨ret_int H.out.symm, rfl⟩
  · by_cases b : 32 ≤ n
    · have H := Lib.hid (show W.sign v n = v by simp [W.sign, a]; omega)
      go_enter Try.func45, Try.ntmps45
      go_wp2
      go_ret
      exact ⟨ret_int H.out.symm, rfl⟩
    · go_enter Try.func45, Try.ntmps45
      go_wp2
      go_ret
      exact ⟨ret_int (W.sign_word v n (by omega) (by omega)), rfl⟩

set_option maxHeartbeats 400000 in
theorem rsign_any (v n : Int) (w : World) (h0 : 0 ≤ v) (h1 : v < 4294967296) :
    Calls Try.prog 31 #[.int .u32 v, .int .i64 n] w fun e w' => e = .returned (.int .u32 (W.sign v n)) ∧ w = w' := by
  by_cases a : n < 1
  · have H := Lib.hid (show W.sign v n = 0 by simp [W.sign, a])
    go_enter Try.func31, Try.ntmps31
    go_wp2
    go_ret
    exact ⟨ret_int H.out.symm, rfl⟩
  · by_cases b : 31 < n
    · have H := Lib.hid (show W.sign v n = v by simp [W.sign, a]; omega)
      go_enter Try.func31, Try.ntmps31
      go_wp2
      go_ret
      exact ⟨ret_int H.out.symm, rfl⟩
    · have hm := W.and_mask v n h0 h1 (by omega) (by omega)
      have H := Lib.hid (W.sign_ref v n (by omega) (by omega))
      cases ht : (v % 2 ^ n.toNat / 2 ^ (n.toNat - 1) == 1)
      · go_enter Try.func31, Try.ntmps31
        go_wp2
        go_ret
        exact ⟨ret_int (H.out.2 ht), rfl⟩
      · go_enter Try.func31, Try.ntmps31
        go_wp2
        go_ret
        exact ⟨ret_int (H.out.1 ht), rfl⟩

set_option maxHeartbeats 400000 in
theorem mul_any (a b : Int) (s : Bool) (w : World) (h0 : 0 ≤ a) (h1 : a < 4294967296) (g0 : 0 ≤ b) (g1 : b < 4294967296) :
    Calls Try.prog 38 #[.int .u32 a, .int .u32 b, .bool s] w fun e w' => e = .returned (.tuple #[.int .u32 (W.mulH a b s), .int .u32 (W.mulL a b)]) ∧ w = w' := by
  obtain ⟨p0, p1⟩ := W.prod_u a b h0 h1 g0 g1
  cases s
  · go_enter Try.func38, Try.ntmps38
    go_wp2
    go_ret2
    exact ⟨ret_two (by simp [W.mulH]) rfl, rfl⟩
  · obtain ⟨q0, q1⟩ := W.prod_s a b
    have H := Lib.hid (W.mul_mod_w32 a b)
    go_enter Try.func38, Try.ntmps38
    go_wp2_with (go_at_call 46; refine (wide_any _ _ (by omega) (by omega)).mono ?_; rintro e w' ⟨rfl, rfl⟩)
    go_ret2
    exact ⟨ret_two (by rw [IntKind.wrap_u64]; simp [W.mulH]; omega) (by have := H.out; rw [IntKind.wrap_u64]; unfold W.mulL; omega), rfl⟩

set_option maxHeartbeats 400000 in
theorem less_any (a b : Int) (s : Bool) (w : World) (h0 : 0 ≤ a) (h1 : a < 4294967296) (g0 : 0 ≤ b) (g1 : b < 4294967296) :
    Calls Try.prog 26 #[.int .u32 a, .int .u32 b, .bool s] w fun e w' => e = .returned (.bool (decide (wideS a s < wideS b s))) ∧ w = w' := by
  cases s
  · go_enter Try.func26, Try.ntmps26
    go_wp2
    go_ret
    exact ⟨rfl, rfl⟩
  · go_enter Try.func26, Try.ntmps26
    go_wp2
    go_ret
    exact ⟨rfl, rfl⟩

set_option maxHeartbeats 400000 in
theorem rless_any (a b : Int) (s : Bool) (w : World) (h0 : 0 ≤ a) (h1 : a < 4294967296) (g0 : 0 ≤ b) (g1 : b < 4294967296) :
    Calls Try.prog 34 #[.int .u32 a, .int .u32 b, .bool s] w fun e w' => e = .returned (.bool (decide (wideS a s < wideS b s))) ∧ w = w' := by
  go_enter Try.func34, Try.ntmps34
  go_wp2_with (go_at_call 48; refine (rwide_any _ _ _ (by omega) (by omega)).mono ?_; rintro e w' ⟨rfl, rfl⟩)
  go_ret
  exact ⟨rfl, rfl⟩

def sumS (a b : Int) (m : Bool) : Int := if m then wrap32 a - wrap32 b else wrap32 a + wrap32 b
def over (a b : Int) (m : Bool) : Bool := decide (sumS a b m < -2147483648 ∨ 2147483648 ≤ sumS a b m)

set_option maxHeartbeats 400000 in
theorem over_any (a b : Int) (m : Bool) (w : World) (h0 : 0 ≤ a) (h1 : a < 4294967296) (g0 : 0 ≤ b) (g1 : b < 4294967296) :
    Calls Try.prog 30 #[.int .u32 a, .int .u32 b, .bool m] w fun e w' => e = .returned (.bool (over a b m)) ∧ w = w' := by
  have la := W.w32_lo a
  have ua := W.w32_hi a
  have lb := W.w32_lo b
  have ub := W.w32_hi b
  cases m
  · have u1 := W.w32_lo (wrap32 a + wrap32 b)
    have u2 := W.w32_hi (wrap32 a + wrap32 b)
    go_enter Try.func30, Try.ntmps30
    go_wp2_with (go_at_call 46; refine (wide_any _ _ (by omega) (by omega)).mono ?_; rintro e w' ⟨rfl, rfl⟩)
    go_ret
    exact ⟨ret_bool (by rw [Bool.eq_iff_iff]; simp [over, sumS]; generalize wrap32 a + wrap32 b = x; unfold wrap32; omega), rfl⟩
  · have u1 := W.w32_lo (wrap32 a - wrap32 b)
    have u2 := W.w32_hi (wrap32 a - wrap32 b)
    go_enter Try.func30, Try.ntmps30
    go_wp2_with (go_at_call 46; refine (wide_any _ _ (by omega) (by omega)).mono ?_; rintro e w' ⟨rfl, rfl⟩)
    go_ret
    exact ⟨ret_bool (by rw [Bool.eq_iff_iff]; simp [over, sumS]; generalize wrap32 a - wrap32 b = x; unfold wrap32; omega), rfl⟩

set_option maxHeartbeats 400000 in
theorem rover_any (a b : Int) (m : Bool) (w : World) (h0 : 0 ≤ a) (h1 : a < 4294967296) (g0 : 0 ≤ b) (g1 : b < 4294967296) :
    Calls Try.prog 41 #[.int .u32 a, .int .u32 b, .bool m] w fun e w' => e = .returned (.bool (over a b m)) ∧ w = w' := by
  have la := W.w32_lo a
  have ua := W.w32_hi a
  have lb := W.w32_lo b
  have ub := W.w32_hi b
  have ea := Lib.hid (show ∀ x, wideS x true = wrap32 x from fun x => rfl)
  cases m
  · by_cases c : 2147483648 ≤ wrap32 a + wrap32 b
    · go_enter Try.func41, Try.ntmps41
      go_wp2_with (go_at_call 48; refine (rwide_any _ _ _ (by omega) (by omega)).mono ?_; rintro e w' ⟨rfl, rfl⟩; simp only [ea.out])
      go_ret
      exact ⟨ret_bool (by rw [Bool.eq_iff_iff]; simp [over, sumS]; omega), rfl⟩
    · go_enter Try.func41, Try.ntmps41
      go_wp2_with (go_at_call 48; refine (rwide_any _ _ _ (by omega) (by omega)).mono ?_; rintro e w' ⟨rfl, rfl⟩; simp only [ea.out])
      go_ret
      exact ⟨ret_bool (by rw [Bool.eq_iff_iff]; simp [over, sumS]; omega), rfl⟩
  · by_cases c : 2147483648 ≤ wrap32 a - wrap32 b
    · go_enter Try.func41, Try.ntmps41
      go_wp2_with (go_at_call 48; refine (rwide_any _ _ _ (by omega) (by omega)).mono ?_; rintro e w' ⟨rfl, rfl⟩; simp only [ea.out])
      go_ret
      exact ⟨ret_bool (by rw [Bool.eq_iff_iff]; simp [over, sumS]; omega), rfl⟩
    · go_enter Try.func41, Try.ntmps41
      go_wp2_with (go_at_call 48; refine (rwide_any _ _ _ (by omega) (by omega)).mono ?_; rintro e w' ⟨rfl, rfl⟩; simp only [ea.out])
      go_ret
      exact ⟨ret_bool (by rw [Bool.eq_iff_iff]; simp [over, sumS]; omega), rfl⟩

set_option maxHeartbeats 400000 in
theorem rmul_any (a b : Int) (s : Bool) (w : World) (h0 : 0 ≤ a) (h1 : a < 4294967296) (g0 : 0 ≤ b) (g1 : b < 4294967296) :
    Calls Try.prog 35 #[.int .u32 a, .int .u32 b, .bool s] w fun e w' => e = .returned (.tuple #[.int .u32 (W.mulH a b s), .int .u32 (W.mulL a b)]) ∧ w = w' := by
  obtain ⟨p0, p1⟩ := W.prod_u a b h0 h1 g0 g1
  cases s
  · go_enter Try.func35, Try.ntmps35
    go_wp2
    go_ret2
    exact ⟨ret_two (by simp [W.mulH]) rfl, rfl⟩
  · have H := Lib.hid (W.mulH_ref a b h0 h1 g0 g1)
    by_cases ca : 2147483648 ≤ a
    · by_cases cb : 2147483648 ≤ b
      · go_enter Try.func35, Try.ntmps35
        go_wp2
        go_ret2
        exact ⟨ret_two (by have := H.out; rw [if_pos (by omega), if_pos (by omega)] at this; omega) rfl, rfl⟩
      · go_enter Try.func35, Try.ntmps35
        go_wp2
        go_ret2
        exact ⟨ret_two (by have := H.out; rw [if_pos (by omega), if_neg (by omega)] at this; omega) rfl, rfl⟩
    · by_cases cb : 2147483648 ≤ b
      · go_enter Try.func35, Try.ntmps35
        go_wp2
        go_ret2
        exact ⟨ret_two (by have := H.out; rw [if_neg (by omega), if_pos (by omega)] at this; omega) rfl, rfl⟩
      · go_enter Try.func35, Try.ntmps35
        go_wp2
        go_ret2
        exact ⟨ret_two (by have := H.out; rw [if_neg (by omega), if_neg (by omega)] at this; omega) rfl, rfl⟩

set_option maxHeartbeats 400000 in
theorem clz_any (v : Int) (w : World) (h0 : 0 ≤ v) (h1 : v < 4294967296) :
    Calls Try.prog 28 #[.int .u32 v] w fun e w' => e = .returned (.int .i64 (W.clz v)) ∧ w = w' := by
  obtain ⟨b0, b1⟩ := W.blen_rng v h0 h1
  go_enter Try.func28, Try.ntmps28
  go_wp2
  go_loop [0, 3] (fun x z => ∃ u : Int, 0 ≤ u ∧ u < 4294967296 ∧ x = .int .u32 u ∧ z = .int .i64 (32 - W.blen v + W.blen u) ∧ W.blen u ≤ W.blen v) (fun x _ => (intOf x).toNat)
  case atStart => exact ⟨v, h0, h1, rfl, by go_num, by omega⟩
  case round =>
    obtain ⟨u, u0, u1, rfl, rfl, hu⟩ := hrel
    by_cases hz : u = 0
    · subst hz
      have hb := Lib.hid W.blen_zero
      go_wp2
      go_ret
      exact ⟨ret_int (by rw [hb.out]; unfold W.clz; omega), rfl⟩
    · have hb := Lib.hid (W.blen_half u (by omega))
      have hp := W.blen_pos u (by omega)
      obtain ⟨c0, c1⟩ := W.blen_rng (u / 2) (by omega) (by omega)
      have hne : (u != 0) = true := by simp; omega
      go_wp2
      go_round
      case rel => exact ⟨u / 2, by omega, by omega, rfl, by rw [hb.out]; go_num, by have := hb.out; omega⟩
      case measure => simp [intOf]; omega

set_option maxHeartbeats 400000 in
theorem rclz_any (v : Int) (w : World) (h0 : 0 ≤ v) (h1 : v < 4294967296) :
    Calls Try.prog 36 #[.int .u32 v] w fun e w' => e = .returned (.int .i64 (W.clz v)) ∧ w = w' := by
  obtain ⟨b0, b1⟩ := W.blen_rng v h0 h1
  go_enter Try.func36, Try.ntmps36
  go_wp2
  go_loop [3, 4] (fun n i => ∃ j : Int, -1 ≤ j ∧ j ≤ 31 ∧ Hid (v < 2 ^ (j + 1).toNat) ∧ i = .int .i64 j ∧ n = .int .i64 (31 - j)) (fun _ i => (intOf i + 1).toNat)
  case atStart => exact ⟨31, by omega, by omega, Lib.hid (by simpa using h1), rfl, rfl⟩
  case round =>
    obtain ⟨j, j0, j1, hv, rfl, rfl⟩ := hrel
    by_cases hj : 0 ≤ j
    · have hv' : v < 2 ^ (j.toNat + 1) := by have := hv.out; rwa [show (j + 1).toNat = j.toNat + 1 by omega] at this
      obtain ⟨t1, t2, t3, t4⟩ := W.bit_test v j.toNat h0 hv'
      have V := Lib.hid hv'
      have T3 := Lib.hid t3
      have T4 := Lib.hid t4
      clear hv' t3 t4 hv
      rcases t2 with t2 | t2
      · rw [t2] at t1
        go_wp2
        go_round
        case rel => exact ⟨j - 1, by omega, by omega, Lib.hid (by have := T3.out t2; rwa [show (j - 1 + 1).toNat = j.toNat by omega]), rfl, by go_num⟩
        case measure => simp [intOf]; omega
      · rw [t2] at t1
        have E := Lib.hid (show W.clz v = 31 - j by have := W.blen_of v j.toNat (T4.out t2) V.out; unfold W.clz; omega)
        go_wp2
        go_ret
        exact ⟨ret_int E.out.symm, rfl⟩
    · have e : j = -1 := by omega
      subst e
      have hz : v = 0 := by have := hv.out; simp at this; omega
      have E := Lib.hid (show W.clz v = 32 by rw [hz]; simp [W.clz, W.blen])
      clear hz
      go_wp2
      go_ret
      exact ⟨ret_int E.out.symm, rfl⟩

theorem not32 (a : Int) (h0 : 0 ≤ a) (h1 : a < 4294967296) : bits .xor .u32 IntKind.u32.max a = 4294967295 - a := by
  have e : (BitVec.ofInt 32 IntKind.u32.max ^^^ BitVec.ofInt 32 a).toNat = 4294967295 - a.toNat := by
    rw [show BitVec.ofInt 32 IntKind.u32.max = BitVec.allOnes 32 by decide, BitVec.allOnes_xor, BitVec.toNat_not, BitVec.toNat_ofInt]; omega
  show IntKind.u32.wrap ((BitVec.ofInt 32 IntKind.u32.max ^^^ BitVec.ofInt 32 a).toNat : Int) = 4294967295 - a
  rw [e, IntKind.wrap_u32]; omega
theorem quiet_of_eq {P : Program} {f : FuncId} {args : Array Value} {w : World} {n : Nat} {v : Value}
    (h : Calls P f args (w.drewN n) fun e w' => e = .returned v ∧ w.drewN n = w') : Calls P f args (w.drewN n) fun e w'' => e = .returned v ∧ ∃ m, w'' = w.drewN m :=
  h.mono fun _ _ k => ⟨k.1, n, k.2.symm⟩
theorem tmod32 (n : Int) : -31 ≤ n.tmod 32 ∧ n.tmod 32 ≤ 31 ∧ n.tmod 32 % 32 = n % 32 := by
  by_cases h : 0 ≤ n
  · rw [Int.tmod_eq_emod_of_nonneg h]; omega
  · have e : n.tmod 32 = -((-n) % 32) := by rw [← Int.tmod_eq_emod_of_nonneg (by omega), Int.neg_tmod]; omega
    rw [e]; omega

set_option maxHeartbeats 400000 in
theorem clo_any (a : Int) (w : World) (h0 : 0 ≤ a) (h1 : a < 4294967296) :
    Calls Try.prog 29 #[.int .u32 a] w fun e w' => e = .returned (.int .i64 (W.clz (4294967295 - a))) ∧ w = w' := by
  have hb := Lib.hid (not32 a h0 h1)
  go_enter Try.func29, Try.ntmps29
  go_wp2_with (go_at_call 28; rw [hb.out]; refine (clz_any _ _ (by omega) (by omega)).mono ?_; rintro e w' ⟨rfl, rfl⟩)
  go_ret
  exact ⟨rfl, rfl⟩

set_option maxHeartbeats 400000 in
theorem rclo_any (a : Int) (w : World) (h0 : 0 ≤ a) (h1 : a < 4294967296) :
    Calls Try.prog 37 #[.int .u32 a] w fun e w' => e = .returned (.int .i64 (W.clz (4294967295 - a))) ∧ w = w' := by
  have hb := Lib.hid (not32 a h0 h1)
  go_enter Try.func37, Try.ntmps37
  go_wp2_with (go_at_call 36; rw [hb.out]; refine (rclz_any _ _ (by omega) (by omega)).mono ?_; rintro e w' ⟨rfl, rfl⟩)
  go_ret
  exact ⟨rfl, rfl⟩

set_option maxHeartbeats 400000 in
theorem rsar_any (v n : Int) (w : World) (h0 : 0 ≤ v) (h1 : v < 4294967296) (n0 : -9223372036854775808 ≤ n) (n1 : n ≤ 9223372036854775807) :
    Calls Try.prog 47 #[.int .u32 v, .int .i64 n] w fun e w' => e = .returned (.int .u32 (W.sar v n)) ∧ w = w' := by
  obtain ⟨m0, m1, m2⟩ := tmod32 n
  have k0 : 0 ≤ n % 32 := by omega
  have k1 : n % 32 < 32 := by omega
  go_enter Try.func47, Try.ntmps47
  go_wp2
  have S := Lib.hid m2
  clear m0 m1 m2
  go_loop [0, 5] (fun x k => ∃ j : Nat, (j : Int) ≤ n % 32 ∧ x = .int .u32 (W.sarN v j) ∧ k = .int .u64 (n % 32 - j)) (fun _ k => (intOf k).toNat)
  case atStart => exact ⟨0, by omega, by rw [W.sarN_zero v h0 h1], by go_num⟩
  case round =>
    obtain ⟨j, hj, rfl, rfl⟩ := hrel
    obtain ⟨r0, r1⟩ := W.sarN_rng v j
    by_cases he : (j : Int) = n % 32
    · have E := Lib.hid (show W.sar v n = W.sarN v j by unfold W.sar; rw [← he]; rfl)
      have hz : (j : Int) ≤ n % 32 := by omega
      have hz' : n % 32 ≤ (j : Int) := by omega
      clear he
      go_wp2
      go_ret
      exact ⟨ret_int E.out.symm, rfl⟩
    · have hlt : (j : Int) < n % 32 := by omega
      have O := W.half_or (W.sarN v j) r0 r1
      rw [W.sarN_add] at O
      go_wp2
      go_round
      case rel => exact ⟨j + 1, by omega, rfl, by go_num⟩
      case measure => simp [intOf]; omega

set_option maxHeartbeats 400000 in
theorem div_any (a b : Int) (s : Bool) (w : World) (h0 : 0 ≤ a) (h1 : a < 4294967296) (g0 : 0 ≤ b) (g1 : b < 4294967296) :
    Calls Try.prog 39 #[.int .u32 a, .int .u32 b, .bool s] w (Dr (.tuple #[.int .u32 (W.divQ a b s), .int .u32 (W.divR a b s)]) w) := by
  by_cases hb : b = 0
  · subst hb
    go_enter Try.func39, Try.ntmps39
    go_wp2
    go_ret2
    exact ⟨ret_two (by simp [W.divQ]) (by simp [W.divR]), 0, rfl⟩
  · have hne : (b == 0) = false := by simpa using hb
    have hb' : b ≠ 0 := hb
    cases s
    · go_enter Try.func39, Try.ntmps39
      go_wp2
      go_quiet (fail)
      go_wp2
      go_ret2
      exact ⟨ret_two (by simp [W.divQ, hb]) (by simp [W.divR, hb]), _, rfl⟩
    · have la := W.w32_lo a
      have ua := W.w32_hi a
      have lb := W.w32_lo b
      have ub := W.w32_hi b
      have hw : ¬ wrap32 b = 0 := by unfold wrap32; omega
      go_enter Try.func39, Try.ntmps39
      go_wp2
      go_quiet ((go_at_call 46; exact quiet_of_eq (wide_any _ _ (by omega) (by omega))))
      go_wp2
      go_ret2
      exact ⟨ret_two (by simp [W.divQ, hb]; unfold wrap64; omega) (by simp [W.divR, hb]), _, rfl⟩

set_option maxHeartbeats 400000 in
theorem rdiv_any (a b : Int) (s : Bool) (w : World) (h0 : 0 ≤ a) (h1 : a < 4294967296) (g0 : 0 ≤ b) (g1 : b < 4294967296) :
    Calls Try.prog 40 #[.int .u32 a, .int .u32 b, .bool s] w (Dr (.tuple #[.int .u32 (W.divQ a b s), .int .u32 (W.divR a b s)]) w) := by
  by_cases hb : b = 0
  · subst hb
    go_enter Try.func40, Try.ntmps40
    go_wp2
    go_ret2
    exact ⟨ret_two (by simp [W.divQ]) (by simp [W.divR]), 0, rfl⟩
  · have hne : (b == 0) = false := by simpa using hb
    cases s
    · have et := Lib.hid (show ∀ x, wideS x false = x from fun x => rfl)
      have q0 : 0 ≤ a / b := Int.ediv_nonneg h0 g0
      have q1 : a / b ≤ a := Int.ediv_le_self b h0
      have r0 : 0 ≤ a % b := Int.emod_nonneg a hb
      have r1 : a % b < b := Int.emod_lt_of_pos a (by omega)
      go_enter Try.func40, Try.ntmps40
      go_wp2_with (go_at_call 48; refine (rwide_any _ _ _ (by omega) (by omega)).mono ?_; rintro e w' ⟨rfl, rfl⟩; simp only [et.out])
      go_quiet (fail)
      go_wp2
      go_ret2
      exact ⟨ret_two (by simp [W.divQ, hb]) (by simp [W.divR, hb]), _, rfl⟩
    · have la := W.w32_lo a
      have ua := W.w32_hi a
      have lb := W.w32_lo b
      have ub := W.w32_hi b
      have hw : ¬ wrap32 b = 0 := by unfold wrap32; omega
      have et := Lib.hid (show ∀ x, wideS x true = wrap32 x from fun x => rfl)
      go_enter Try.func40, Try.ntmps40
      go_wp2_with (go_at_call 48; refine (rwide_any _ _ _ (by omega) (by omega)).mono ?_; rintro e w' ⟨rfl, rfl⟩; simp only [et.out])
      go_quiet (fail)
      go_wp2
      go_ret2
      exact ⟨ret_two (by simp [W.divQ, hb]; unfold wrap64; omega) (by simp [W.divR, hb]), _, rfl⟩
end Go.Proofs.Ytfdgmenlefojbaa
