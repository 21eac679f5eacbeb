/-
  Plain mathematics of 32-bit words, the second part: signs of sums by their highest bits; shifts one behind the other; the order of words.
-/
import Derived.Test.YtehdffhfghklhaaLeaf
namespace Go.Proofs.Ytehdffhfghklhaa.W
open Go.RowKit
set_option linter.unusedVariables false

theorem top_and (x y : Nat) : (x &&& y) / 2147483648 = (x / 2147483648) &&& (y / 2147483648) := by
  have := Nat.shiftRight_and_distrib (i := 31) (a := x) (b := y)
  simpa [Nat.shiftRight_eq_div_pow] using this
theorem top_xor (x y : Nat) : (x ^^^ y) / 2147483648 = (x / 2147483648) ^^^ (y / 2147483648) := by
  have := Nat.shiftRight_xor_distrib (i := 31) (a := x) (b := y)
  simpa [Nat.shiftRight_eq_div_pow] using this
theorem xor_lt (x y : Nat) (h : x < 4294967296) (g : y < 4294967296) : x ^^^ y < 4294967296 := Nat.xor_lt_two_pow (n := 32) h g
theorem two (x : Nat) (h : x < 4294967296) : x / 2147483648 = 0 ∨ x / 2147483648 = 1 := by omega
theorem top_test (a s b t : Int) (h0 : 0 ≤ a) (h1 : a < 4294967296) (g0 : 0 ≤ b) (g1 : b < 4294967296) (s0 : 0 ≤ s) (s1 : s < 4294967296) (t0 : 0 ≤ t) (t1 : t < 4294967296) :
    (bits .and .u32 (bits .xor .u32 a s) (bits .xor .u32 b t) / 2147483648 == 1) = decide (a / 2147483648 ≠ s / 2147483648 ∧ b / 2147483648 ≠ t / 2147483648) := by
  obtain ⟨x, rfl⟩ := Int.eq_ofNat_of_zero_le h0
  obtain ⟨y, rfl⟩ := Int.eq_ofNat_of_zero_le s0
  obtain ⟨z, rfl⟩ := Int.eq_ofNat_of_zero_le g0
  obtain ⟨u, rfl⟩ := Int.eq_ofNat_of_zero_le t0
  rw [Go.u32_xor_nat _ _ (by omega) (by omega), Go.u32_xor_nat _ _ (by omega) (by omega), Go.u32_and_nat _ _ (xor_lt _ _ (by omega) (by omega)) (xor_lt _ _ (by omega) (by omega))]
  have e : (((x ^^^ y) &&& (z ^^^ u) : Nat) : Int) / 2147483648 = ((((x / 2147483648) ^^^ (y / 2147483648)) &&& ((z / 2147483648) ^^^ (u / 2147483648)) : Nat) : Int) := by
    rw [← top_xor, ← top_xor, ← top_and]; omega
  rw [e]
  have ex : (x : Int) / 2147483648 = ((x / 2147483648 : Nat) : Int) := by omega
  have ey : (y : Int) / 2147483648 = ((y / 2147483648 : Nat) : Int) := by omega
  have ez : (z : Int) / 2147483648 = ((z / 2147483648 : Nat) : Int) := by omega
  have eu : (u : Int) / 2147483648 = ((u / 2147483648 : Nat) : Int) := by omega
  rw [ex, ey, ez, eu]
  rcases two x (by omega) with p | p <;> rcases two y (by omega) with q | q <;> rcases two z (by omega) with r | r <;> rcases two u (by omega) with t | t <;> rw [p, q, r, t] <;> decide
theorem over_is (a b : Int) (h0 : 0 ≤ a) (h1 : a < 4294967296) (g0 : 0 ≤ b) (g1 : b < 4294967296) :
    (bits .and .u32 (bits .xor .u32 a ((a + b) % 4294967296)) (bits .xor .u32 b ((a + b) % 4294967296)) / 2147483648 == 1) = over a b false := by
  rw [top_test a _ b _ h0 h1 g0 g1 (by omega) (by omega) (by omega) (by omega)]
  unfold over sumS wrap32
  rw [Bool.eq_iff_iff]; simp; omega
theorem under_is (a b : Int) (h0 : 0 ≤ a) (h1 : a < 4294967296) (g0 : 0 ≤ b) (g1 : b < 4294967296) :
    (bits .and .u32 (bits .xor .u32 a b) (bits .xor .u32 a ((a - b) % 4294967296)) / 2147483648 == 1) = over a b true := by
  rw [top_test a b a _ h0 h1 h0 h1 (by omega) (by omega) (by omega) (by omega)]
  unfold over sumS wrap32
  rw [Bool.eq_iff_iff]; simp; omega
theorem wideS_inj (a b : Int) (s : Bool) (h0 : 0 ≤ a) (h1 : a < 4294967296) (g0 : 0 ≤ b) (g1 : b < 4294967296) (h : wideS a s = wideS b s) : a = b := by
  cases s
  · simpa [wideS] using h
  · simp only [wideS, if_true] at h; unfold wrap32 at h; omega
theorem sar_sar (v x y : Int) (x0 : 0 ≤ x) (x1 : x < 16) (y0 : 0 ≤ y) (y1 : y < 16) : sar (sar v x) y = sar v (x + y) := by
  unfold sar
  rw [sarN_add]
  congr 1
  omega
theorem sar_rng (v n : Int) : 0 ≤ sar v n ∧ sar v n < 4294967296 := sarN_rng v _
theorem clz_shift (v : Int) (h0 : 1 ≤ v) (h1 : v < 4294967296) : 0 ≤ clz v ∧ clz v < 32 ∧ v / 2 ^ (31 - clz v).toNat = 1 := by
  obtain ⟨k, a, b, c⟩ := blen_is v h0
  have r := blen_rng v (by omega) h1
  have e : clz v = 31 - k := by unfold clz; omega
  rw [e]
  refine ⟨by omega, by omega, ?_⟩
  rw [show (31 - (31 - (k : Int))).toNat = k by omega]
  have hp : (0 : Int) < 2 ^ k := Int.pow_pos (by omega)
  have h2 : v / 2 ^ k < 2 := Int.ediv_lt_of_lt_mul hp (by rw [Int.pow_succ] at b; omega)
  have h3 : 1 ≤ v / 2 ^ k := by rw [Int.le_ediv_iff_mul_le hp]; omega
  omega
end Go.Proofs.Ytehdffhfghklhaa.W
