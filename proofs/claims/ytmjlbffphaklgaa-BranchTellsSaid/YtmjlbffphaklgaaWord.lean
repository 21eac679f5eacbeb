/-
  Plain mathematics of 32-bit words (no Go in it): what chapter 1's functions answer, as functions of integers, and the laws on them. Words are integers 0 .. 2^32-1.
-/
import Derived.WalkKit
namespace Go.Proofs.Ytmjlbffphaklgaa.W
open Go.RowKit

theorem w32 (a : Int) (h0 : 0 ≤ a) (h1 : a < 4294967296) : wrap32 a = if a < 2147483648 then a else a - 4294967296 := by
  unfold wrap32; split <;> omega
theorem w32_lo (a : Int) : -2147483648 ≤ wrap32 a := by unfold wrap32; omega
theorem w32_hi (a : Int) : wrap32 a ≤ 2147483647 := by unfold wrap32; omega

/-! products -/
theorem prod_u (a b : Int) (h0 : 0 ≤ a) (h1 : a < 4294967296) (g0 : 0 ≤ b) (g1 : b < 4294967296) : 0 ≤ a * b ∧ a * b ≤ 18446744065119617025 := by
  refine ⟨Int.mul_nonneg h0 g0, ?_⟩
  have : a * b ≤ 4294967295 * 4294967295 := Int.mul_le_mul (by omega) (by omega) g0 (by omega)
  omega
theorem prod_abs (x y : Int) (M N : Int) (hx0 : -M ≤ x) (hx1 : x ≤ M) (hy0 : -N ≤ y) (hy1 : y ≤ N) (hM : 0 ≤ M) : -(M * N) ≤ x * y ∧ x * y ≤ M * N := by
  have hN : 0 ≤ N := by omega
  have e : (x * y).natAbs ≤ (M * N).natAbs := by
    rw [Int.natAbs_mul, Int.natAbs_mul]; exact Nat.mul_le_mul (by omega) (by omega)
  have : 0 ≤ M * N := Int.mul_nonneg hM hN
  omega
theorem prod_s (a b : Int) : -4611686018427387904 ≤ wrap32 a * wrap32 b ∧ wrap32 a * wrap32 b ≤ 4611686018427387904 := by
  have := prod_abs (wrap32 a) (wrap32 b) 2147483648 2147483648 (w32_lo a) (by have := w32_hi a; omega) (w32_lo b) (by have := w32_hi b; omega) (by omega)
  omega

def mulH (a b : Int) (s : Bool) : Int := if s then wrap32 a * wrap32 b / 4294967296 % 4294967296 else a * b / 4294967296
def mulL (a b : Int) : Int := a * b % 4294967296
theorem mul_mod_w32 (a b : Int) : (wrap32 a * wrap32 b) % 4294967296 = a * b % 4294967296 := by
  have ea : wrap32 a % 4294967296 = a % 4294967296 := by unfold wrap32; omega
  have eb : wrap32 b % 4294967296 = b % 4294967296 := by unfold wrap32; omega
  rw [Int.mul_emod, ea, eb, ← Int.mul_emod]

/-! quotients -/
def divQ (a b : Int) (s : Bool) : Int := if b = 0 then 4294967295 else if s then (wrap32 a).tdiv (wrap32 b) % 4294967296 else a / b
def divR (a b : Int) (s : Bool) : Int := if b = 0 then a else if s then (wrap32 a).tmod (wrap32 b) % 4294967296 else a % b

/-! shifts -/
def sarN (v : Int) (k : Nat) : Int := wrap32 v / 2 ^ k % 4294967296
def sar (v n : Int) : Int := sarN v (n % 32).toNat
def sign (v n : Int) : Int := if n < 1 then 0 else if 31 < n then v else
  if 2 ^ (n.toNat - 1) ≤ v % 2 ^ n.toNat then v % 2 ^ n.toNat - 2 ^ n.toNat + 4294967296 else v % 2 ^ n.toNat

theorem and31 (n : Int) : bits .and .i64 n 31 = n % 32 := by
  have e : (BitVec.ofInt 64 n &&& BitVec.ofInt 64 31).toNat = (n % 32).toNat := by
    rw [BitVec.toNat_and]
    have h31 : (BitVec.ofInt 64 31).toNat = 31 := by decide
    rw [h31, Go.nat_mask5, BitVec.toNat_ofInt]
    omega
  show IntKind.i64.wrap ((BitVec.ofInt 64 n &&& BitVec.ofInt 64 31).toNat : Int) = n % 32
  rw [e, IntKind.wrap_i64]; omega

theorem sarN_rng (v : Int) (k : Nat) : 0 ≤ sarN v k ∧ sarN v k < 4294967296 := by unfold sarN; omega
theorem sarN_zero (v : Int) (h0 : 0 ≤ v) (h1 : v < 4294967296) : sarN v 0 = v := by
  unfold sarN wrap32; simp; omega
theorem sarN_wrap (v : Int) (k : Nat) : wrap32 (sarN v k) = wrap32 v / 2 ^ k := by
  unfold sarN
  have hp : (0 : Int) < 2 ^ k := Int.pow_pos (by omega)
  have h1 : -2147483648 ≤ wrap32 v / 2 ^ k := by
    have := w32_lo v
    rw [Int.le_ediv_iff_mul_le hp]
    have : (-2147483648 : Int) * 2 ^ k ≤ -2147483648 * 1 := Int.mul_le_mul_of_nonpos_left (by omega) (by omega)
    omega
  have h2 : wrap32 v / 2 ^ k ≤ 2147483647 := by
    have h := w32_hi v
    by_cases hn : 0 ≤ wrap32 v
    · have := Int.ediv_le_self (2 ^ k) hn; omega
    · have := Int.ediv_neg_of_neg_of_pos (by omega : wrap32 v < 0) hp; omega
  generalize wrap32 v / 2 ^ k = x at *
  unfold wrap32; omega
theorem sarN_add (v : Int) (j k : Nat) : sarN (sarN v j) k = sarN v (j + k) := by
  have := sarN_wrap v j
  unfold sarN at *
  rw [this, Int.pow_add, Int.ediv_ediv_of_nonneg (Int.le_of_lt (Int.pow_pos (by omega)))]
theorem half_or (u : Int) (h0 : 0 ≤ u) (h1 : u < 4294967296) : bits .or .u32 (u / 2) (bits .and .u32 u 2147483648) = sarN u 1 := by
  obtain ⟨n, rfl⟩ := Int.eq_ofNat_of_zero_le h0
  have e1 : bits .and .u32 (n : Int) 2147483648 = ((n / 2147483648 % 2 * 2147483648 : Nat) : Int) := by
    rw [show (2147483648 : Int) = ((2147483648 : Nat) : Int) from rfl, Go.u32_and_nat _ _ (by omega) (by omega)]
    have := Go.nat_bit 31 n
    rw [show (2147483648 : Nat) = 2 ^ 31 from rfl, this]
  have e2 : ((n : Int) / 2) = ((n / 2 : Nat) : Int) := by omega
  rw [e1, e2, Go.u32_or_nat _ _ (by omega) (by omega), Nat.or_comm, Go.nat_join 31 _ _ (by simp) (by omega)]
  unfold sarN wrap32
  simp
  omega

theorem cases31 (n : Int) (h : 1 ≤ n) (h' : n ≤ 31) : n = 1 ∨ n = 2 ∨ n = 3 ∨ n = 4 ∨ n = 5 ∨ n = 6 ∨ n = 7 ∨ n = 8 ∨ n = 9 ∨ n = 10 ∨ n = 11 ∨ n = 12 ∨ n = 13 ∨ n = 14 ∨ n = 15 ∨ n = 16 ∨ n = 17 ∨ n = 18 ∨ n = 19 ∨ n = 20 ∨ n = 21 ∨ n = 22 ∨ n = 23 ∨ n = 24 ∨ n = 25 ∨ n = 26 ∨ n = 27 ∨ n = 28 ∨ n = 29 ∨ n = 30 ∨ n = 31 := by omega
theorem sign_word (v n : Int) (h : 1 ≤ n) (h' : n ≤ 31) :
    wrap32 (v * 2 ^ (32 - n).toNat % 4294967296) / 2 ^ (32 - n).toNat % 4294967296 = sign v n := by
  unfold sign wrap32
  rw [if_neg (by omega), if_neg (by omega)]
  rcases cases31 n h h' with rfl | rfl | rfl | rfl | rfl | rfl | rfl | rfl | rfl | rfl | rfl | rfl | rfl | rfl | rfl | rfl | rfl | rfl | rfl | rfl | rfl | rfl | rfl | rfl | rfl | rfl | rfl | rfl | rfl | rfl | rfl <;> (simp; split <;> omega)
theorem and_mask (v n : Int) (h0 : 0 ≤ v) (h1 : v < 4294967296) (h : 1 ≤ n) (h' : n ≤ 31) :
    bits .and .u32 v ((2 ^ n.toNat - 1) % 4294967296) = v % 2 ^ n.toNat := by
  obtain ⟨m, rfl⟩ := Int.eq_ofNat_of_zero_le h0
  obtain ⟨k, rfl⟩ := Int.eq_ofNat_of_zero_le (show 0 ≤ n by omega)
  have hk : 2 ^ k ≤ 2 ^ 31 := Nat.pow_le_pow_right (by omega) (by omega)
  have hk0 : 0 < 2 ^ k := Nat.pow_pos (by omega)
  have e : ((2 : Int) ^ (k : Int).toNat - 1) % 4294967296 = ((2 ^ k - 1 : Nat) : Int) := by
    have : ((2 : Int) ^ (k : Int).toNat) = ((2 ^ k : Nat) : Int) := by simp
    rw [this]; omega
  rw [e, Go.u32_and_nat _ _ (by omega) (by omega), Nat.and_two_pow_sub_one_eq_mod]
  simp
theorem sign_ref (v n : Int) (h : 1 ≤ n) (h' : n ≤ 31) :
    ((v % 2 ^ n.toNat / 2 ^ (n.toNat - 1) == 1) = true → (v % 2 ^ n.toNat - 2 ^ n.toNat) % 4294967296 = sign v n) ∧
    ((v % 2 ^ n.toNat / 2 ^ (n.toNat - 1) == 1) = false → v % 2 ^ n.toNat = sign v n) := by
  unfold sign
  rw [if_neg (by omega), if_neg (by omega)]
  rcases cases31 n h h' with rfl | rfl | rfl | rfl | rfl | rfl | rfl | rfl | rfl | rfl | rfl | rfl | rfl | rfl | rfl | rfl | rfl | rfl | rfl | rfl | rfl | rfl | rfl | rfl | rfl | rfl | rfl | rfl | rfl | rfl | rfl <;> (simp; constructor <;> (intro _; repeat' split) <;> omega)
theorem sign_rng (v n : Int) (h0 : 0 ≤ v) (h1 : v < 4294967296) : 0 ≤ sign v n ∧ sign v n < 4294967296 := by
  by_cases a : n < 1
  · simp [sign, a]
  · by_cases b : 31 < n
    · simp [sign, a, b]; omega
    · rw [← sign_word v n (by omega) (by omega)]; omega
theorem sign_of (v n : Int) (h : 1 ≤ n) (h' : n ≤ 31) : sign v n = if 2 ^ (n.toNat - 1) ≤ v % 2 ^ n.toNat then v % 2 ^ n.toNat - 2 ^ n.toNat + 4294967296 else v % 2 ^ n.toNat := by
  unfold sign; rw [if_neg (by omega), if_neg (by omega)]
theorem sign_mod (v n : Int) (h : 1 ≤ n) (h' : n ≤ 31) : sign v n % 2 ^ n.toNat = v % 2 ^ n.toNat := by
  rw [sign_of v n h h']
  rcases cases31 n h h' with rfl | rfl | rfl | rfl | rfl | rfl | rfl | rfl | rfl | rfl | rfl | rfl | rfl | rfl | rfl | rfl | rfl | rfl | rfl | rfl | rfl | rfl | rfl | rfl | rfl | rfl | rfl | rfl | rfl | rfl | rfl <;> (simp; split <;> omega)
theorem sign_sign (v n : Int) (h : 1 ≤ n) (h' : n ≤ 31) : sign (sign v n) n = sign v n := by
  rw [sign_of (sign v n) n h h', sign_mod v n h h', ← sign_of v n h h']

/-! leading bits -/
def blen (v : Int) : Int := if v = 0 then 0 else v.toNat.log2 + 1
def clz (v : Int) : Int := 32 - blen v
theorem blen_of (v : Int) (k : Nat) (h : 2 ^ k ≤ v) (h' : v < 2 ^ (k + 1)) : blen v = k + 1 := by
  have hp : (0 : Int) < 2 ^ k := Int.pow_pos (by omega)
  obtain ⟨m, rfl⟩ := Int.eq_ofNat_of_zero_le (show 0 ≤ v by omega)
  have h1 : 2 ^ k ≤ m := by exact_mod_cast h
  have h2 : m < 2 ^ (k + 1) := by exact_mod_cast h'
  have hm : m ≠ 0 := by have : 0 < 2 ^ k := Nat.pow_pos (by omega); omega
  have := (Nat.log2_eq_iff hm).2 ⟨h1, h2⟩
  unfold blen
  rw [if_neg (by omega)]; simp [this]
theorem blen_is (v : Int) (h : 1 ≤ v) : ∃ k : Nat, 2 ^ k ≤ v ∧ v < 2 ^ (k + 1) ∧ blen v = k + 1 := by
  obtain ⟨m, rfl⟩ := Int.eq_ofNat_of_zero_le (show 0 ≤ v by omega)
  have hm : m ≠ 0 := by omega
  have := (Nat.log2_eq_iff hm).1 rfl
  refine ⟨m.log2, by exact_mod_cast this.1, by exact_mod_cast this.2, ?_⟩
  unfold blen
  rw [if_neg (by omega)]; simp
theorem blen_half (v : Int) (h : 1 ≤ v) : blen v = blen (v / 2) + 1 := by
  obtain ⟨k, a, b, c⟩ := blen_is v h
  rw [c]
  cases k with
  | zero =>
    have : v / 2 = 0 := by simp at b; omega
    rw [this]; simp [blen]
  | succ k =>
    rw [blen_of (v / 2) k (by rw [Int.pow_succ] at a; omega) (by rw [Int.pow_succ] at b; omega)]
    simp
theorem blen_zero : blen 0 = 0 := by simp [blen]
theorem blen_rng (v : Int) (h0 : 0 ≤ v) (h1 : v < 4294967296) : 0 ≤ blen v ∧ blen v ≤ 32 := by
  by_cases h : v = 0
  · subst h; simp [blen]
  · obtain ⟨k, a, b, c⟩ := blen_is v (by omega)
    have : k < 32 := by
      have : (2 : Int) ^ k < 2 ^ 32 := by omega
      have : (2 : Nat) ^ k < 2 ^ 32 := by exact_mod_cast this
      exact (Nat.pow_lt_pow_iff_right (by omega)).1 this
    omega
theorem blen_pos (v : Int) (h : 1 ≤ v) : 1 ≤ blen v := by
  obtain ⟨k, _, _, c⟩ := blen_is v h; omega

theorem mulH_ref (a b : Int) (h0 : 0 ≤ a) (h1 : a < 4294967296) (g0 : 0 ≤ b) (g1 : b < 4294967296) :
    mulH a b true = (a * b / 4294967296 - (if 2147483648 ≤ a then b else 0) - (if 2147483648 ≤ b then a else 0)) % 4294967296 := by
  simp only [mulH, if_true]
  rw [w32 a h0 h1, w32 b g0 g1]
  by_cases ca : 2147483648 ≤ a <;> by_cases cb : 2147483648 ≤ b
  · rw [if_neg (by omega), if_neg (by omega), if_pos ca, if_pos cb, Int.sub_mul, Int.mul_sub]; omega
  · rw [if_neg (by omega), if_pos (by omega), if_pos ca, if_neg cb, Int.sub_mul]; omega
  · rw [if_pos (by omega), if_neg (by omega), if_neg ca, if_pos cb, Int.mul_sub]; omega
  · rw [if_pos (by omega), if_pos (by omega), if_neg ca, if_neg cb]; omega
theorem bit_test (v : Int) (k : Nat) (h0 : 0 ≤ v) (h1 : v < 2 ^ (k + 1)) : bits .and .u32 (v / 2 ^ k) 1 = v / 2 ^ k ∧ (v / 2 ^ k = 0 ∨ v / 2 ^ k = 1) ∧ (v / 2 ^ k = 0 → v < 2 ^ k) ∧ (v / 2 ^ k = 1 → 2 ^ k ≤ v) := by
  have hp : (0 : Int) < 2 ^ k := Int.pow_pos (by omega)
  have hlt : v / 2 ^ k < 2 := Int.ediv_lt_of_lt_mul hp (by rw [Int.pow_succ] at h1; omega)
  have hge : 0 ≤ v / 2 ^ k := Int.ediv_nonneg h0 (by omega)
  refine ⟨?_, by omega, fun h => ?_, fun h => ?_⟩
  · have : v / 2 ^ k = 0 ∨ v / 2 ^ k = 1 := by omega
    rcases this with e | e <;> rw [e] <;> decide
  · have := Int.emod_add_mul_ediv v (2 ^ k); rw [h] at this
    have := Int.emod_lt_of_pos v hp; omega
  · have := Int.emod_add_mul_ediv v (2 ^ k); rw [h] at this
    have := Int.emod_nonneg v (show (2 ^ k : Int) ≠ 0 by omega); omega

theorem w32_mod (a : Int) : wrap32 a % 4294967296 = a % 4294967296 := by unfold wrap32; omega
theorem div_back (a b : Int) (s : Bool) (h0 : 0 ≤ a) (h1 : a < 4294967296) (hb : b ≠ 0) : (divQ a b s * b + divR a b s) % 4294967296 = a := by
  cases s
  · simp only [divQ, divR, hb, if_false, Bool.false_eq_true]
    have := Int.mul_ediv_add_emod a b
    rw [Int.mul_comm, this]; omega
  · simp only [divQ, divR, hb, if_false, if_true]
    rw [Int.add_emod, Int.mul_emod, Int.emod_emod_of_dvd _ (Int.dvd_refl _), ← w32_mod b, ← Int.mul_emod, Int.emod_emod_of_dvd _ (Int.dvd_refl _), ← Int.add_emod]
    have := Int.mul_tdiv_add_tmod (wrap32 a) (wrap32 b)
    rw [Int.mul_comm, this, w32_mod]; omega
theorem divR_lt (a b : Int) (g0 : 0 ≤ b) (hb : b ≠ 0) : divR a b false < b := by
  simp only [divR, hb, if_false, Bool.false_eq_true]
  exact Int.emod_lt_of_pos a (by omega)
theorem divR_rng (a b : Int) (s : Bool) (h0 : 0 ≤ a) (h1 : a < 4294967296) (g0 : 0 ≤ b) (g1 : b < 4294967296) : 0 ≤ divR a b s ∧ divR a b s < 4294967296 := by
  by_cases hb : b = 0
  · simp [divR, hb]; omega
  · cases s
    · simp only [divR, hb, if_false, Bool.false_eq_true]
      have := Int.emod_lt_of_pos a (show 0 < b by omega)
      have := Int.emod_nonneg a hb
      omega
    · simp only [divR, hb, if_false, if_true]; omega
theorem emod_le' (x y : Int) (h : 0 ≤ x) : x % y ≤ x := by
  obtain ⟨m, rfl⟩ := Int.eq_ofNat_of_zero_le h
  show ((m % y.natAbs : Nat) : Int) ≤ (m : Int)
  exact_mod_cast Nat.mod_le m y.natAbs
theorem divR_sign (a b : Int) (h0 : 0 ≤ a) (h1 : a < 4294967296) (hb : b ≠ 0) : divR a b true = 0 ∨ divR a b true / 2147483648 = a / 2147483648 := by
  simp only [divR, hb, if_false, if_true]
  have hx := w32 a h0 h1
  have hl := w32_lo a
  have hu := w32_hi a
  by_cases c : a < 2147483648
  · rw [if_pos c] at hx
    rw [hx, Int.tmod_eq_emod_of_nonneg h0]
    by_cases y : wrap32 b = 0
    · rw [y]; simp; omega
    · have p := Int.emod_nonneg a y
      have q : a % wrap32 b ≤ a := by
        exact emod_le' a (wrap32 b) h0
      omega
  · rw [if_neg c] at hx
    have e : (wrap32 a).tmod (wrap32 b) = -((-(wrap32 a)).tmod (wrap32 b)) := by rw [Int.neg_tmod]; omega
    rw [e, Int.tmod_eq_emod_of_nonneg (by omega)]
    have q : (-(wrap32 a)) % wrap32 b ≤ -(wrap32 a) := emod_le' _ _ (by omega)
    have p : 0 ≤ (-(wrap32 a)) % wrap32 b := by
      by_cases y : wrap32 b = 0
      · rw [y]; simp; omega
      · exact Int.emod_nonneg _ y
    omega
theorem mulH_comm (a b : Int) (s : Bool) : mulH a b s = mulH b a s := by
  unfold mulH; rw [Int.mul_comm a b, Int.mul_comm (wrap32 a)]
theorem mulL_comm (a b : Int) : mulL a b = mulL b a := by unfold mulL; rw [Int.mul_comm a b]
end Go.Proofs.Ytmjlbffphaklgaa.W
