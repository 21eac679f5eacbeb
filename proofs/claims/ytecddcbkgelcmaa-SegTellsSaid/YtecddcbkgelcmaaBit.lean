/-
  Words told by their bits: a word is what its 32 bits are.
-/
import Derived.Test.YtecddcbkgelcmaaC0M
namespace Go.Proofs.Ytecddcbkgelcmaa
open Go.RowKit
set_option linter.unusedVariables false
theorem bv_bit (x : Int) (hx : W32 x) (i : Nat) : (BitVec.ofInt 32 x).getLsbD i = tb x i := by
  obtain ⟨h0, h1⟩ := hx
  obtain ⟨n, rfl⟩ := Int.eq_ofNat_of_zero_le h0
  rw [← BitVec.testBit_toNat, show (BitVec.ofInt 32 (n : Int)).toNat = n from ofInt_u32 n (by omega)]
  rfl
theorem tb_and (x y : Int) (hx : W32 x) (hy : W32 y) (i : Nat) : tb (bits .and .u32 x y) i = (tb x i && tb y i) := by
  rw [bv_and]
  show (BitVec.ofInt 32 x &&& BitVec.ofInt 32 y).toNat.testBit i = _
  rw [BitVec.testBit_toNat, BitVec.getLsbD_and, bv_bit x hx, bv_bit y hy]
theorem tb_or (x y : Int) (hx : W32 x) (hy : W32 y) (i : Nat) : tb (bits .or .u32 x y) i = (tb x i || tb y i) := by
  rw [bv_or]
  show (BitVec.ofInt 32 x ||| BitVec.ofInt 32 y).toNat.testBit i = _
  rw [BitVec.testBit_toNat, BitVec.getLsbD_or, bv_bit x hx, bv_bit y hy]
theorem tb_andNot (x y : Int) (hx : W32 x) (hy : W32 y) (i : Nat) : tb (bits .andNot .u32 x y) i = (tb x i && !tb y i) := by
  rw [bv_andNot]
  show (BitVec.ofInt 32 x &&& ~~~BitVec.ofInt 32 y).toNat.testBit i = _
  rw [BitVec.testBit_toNat, BitVec.getLsbD_and, BitVec.getLsbD_not, bv_bit x hx, bv_bit y hy]
  by_cases hi : i < 32
  · simp [hi]
  · have : tb x i = false := Nat.testBit_lt_two_pow (Nat.lt_of_lt_of_le (by have := hx.2; have := hx.1; omega : x.toNat < 2 ^ 32) (Nat.pow_le_pow_right (by omega) (by omega)))
    simp [this]
theorem tb_pu (c m v : Int) (hc : W32 c) (hm : W32 m) (hv : W32 v) (i : Nat) : tb (pu c m v) i = if tb m i then tb v i else tb c i := by
  unfold pu
  rw [tb_or _ _ (w_andNot _ _) (w_and _ _), tb_andNot _ _ hc hm, tb_and _ _ hv hm]
  cases tb m i <;> simp
theorem tb_eq {a b : Int} (ha : W32 a) (hb : W32 b) (h : ∀ i, i < 32 → tb a i = tb b i) : a = b := by
  have e : a.toNat = b.toNat := by
    apply Nat.eq_of_testBit_eq
    intro i
    by_cases hi : i < 32
    · exact h i hi
    · rw [Nat.testBit_lt_two_pow (Nat.lt_of_lt_of_le (by have := ha.2; have := ha.1; omega : a.toNat < 2 ^ 32) (Nat.pow_le_pow_right (by omega) (by omega))), Nat.testBit_lt_two_pow (Nat.lt_of_lt_of_le (by have := hb.2; have := hb.1; omega : b.toNat < 2 ^ 32) (Nat.pow_le_pow_right (by omega) (by omega)))]
  have := ha.1; have := hb.1
  omega
theorem tb_div (a : Int) (ha : 0 ≤ a) (k i : Nat) : tb (a / ((2 ^ k : Nat) : Int)) i = tb a (i + k) := by
  obtain ⟨n, rfl⟩ := Int.eq_ofNat_of_zero_le ha
  unfold tb
  rw [show ((n : Int) / ((2 ^ k : Nat) : Int)).toNat = n / 2 ^ k by rw [← Int.natCast_ediv]; rfl, Nat.testBit_div_two_pow]
  rfl
theorem tb_mul (a : Int) (ha : 0 ≤ a) (k i : Nat) : tb (a * ((2 ^ k : Nat) : Int)) (i + k) = tb a i := by
  obtain ⟨n, rfl⟩ := Int.eq_ofNat_of_zero_le ha
  unfold tb
  rw [show ((n : Int) * ((2 ^ k : Nat) : Int)).toNat = n * 2 ^ k by rw [← Int.natCast_mul]; rfl, Nat.testBit_mul_two_pow]
  simp
theorem tb_lt (a : Int) (k i : Nat) (h1 : a < ((2 ^ k : Nat) : Int)) (hi : k ≤ i) : tb a i = false := by
  have h2 : a.toNat < 2 ^ k := by
    by_cases h : 0 ≤ a
    · exact Int.ofNat_lt.1 (by rw [Int.toNat_of_nonneg h]; exact h1)
    · rw [Int.toNat_of_nonpos (by omega)]; exact Nat.two_pow_pos k
  exact Nat.testBit_lt_two_pow (Nat.lt_of_lt_of_le h2 (Nat.pow_le_pow_right (by omega) hi))
theorem tb_top (a : Int) (ha : W32 a) : a / 2147483648 = ((tb a 31).toNat : Nat) := by
  obtain ⟨h0, h1⟩ := ha
  obtain ⟨n, rfl⟩ := Int.eq_ofNat_of_zero_le h0
  unfold tb
  rw [Nat.toNat_testBit, Int.toNat_natCast]
  omega
theorem and31 (n : Int) : bits .and .i64 n 31 = n % 32 := by
  have e : (BitVec.ofInt 64 n &&& BitVec.ofInt 64 31).toNat = (n % 32).toNat := by
    rw [BitVec.toNat_and]
    have h31 : (BitVec.ofInt 64 31).toNat = 31 := by decide
    rw [h31, Go.nat_mask5, BitVec.toNat_ofInt]
    omega
  show IntKind.i64.wrap ((BitVec.ofInt 64 n &&& BitVec.ofInt 64 31).toNat : Int) = n % 32
  rw [e, IntKind.wrap_i64]; omega
theorem tmod_pos (a k : Int) (hk : 0 < k) : -k < a.tmod k ∧ a.tmod k < k := by
  by_cases h : 0 ≤ a
  · have h1 := Int.tmod_nonneg k h
    have h2 := Int.tmod_lt_of_pos a hk
    omega
  · have h1 := Int.tmod_nonneg k (show 0 ≤ -a by omega)
    have h2 := Int.tmod_lt_of_pos (-a) hk
    rw [Int.neg_tmod] at h1 h2
    omega
/-! chapter 6's masks -/
theorem w2 : W32 2 := ⟨by decide, by decide⟩
theorem w124 : W32 124 := ⟨by decide, by decide⟩
theorem wBD : W32 2147483648 := ⟨by decide, by decide⟩
theorem exl_clear (c : Int) (hc : W32 c) : tb (pu c 2 0) 1 = false := by rw [tb_pu c 2 0 hc w2 w32_0]; rfl
theorem exl_set (c : Int) (hc : W32 c) : tb (pu c 2 2) 1 = true := by rw [tb_pu c 2 2 hc w2 w2]; rfl
theorem exl_back (c : Int) (hc : W32 c) : pu (pu (pu (pu c 2 0) 2 2) 2 2) 2 0 = pu c 2 0 := by
  apply tb_eq (w_pu _ _ _) (w_pu _ _ _)
  intro i hi
  rw [tb_pu _ 2 0 (w_pu _ _ _) w2 w32_0, tb_pu _ 2 2 (w_pu _ _ _) w2 w2, tb_pu _ 2 2 (w_pu _ _ _) w2 w2, tb_pu c 2 0 hc w2 w32_0]
  cases tb 2 i <;> simp
theorem code_back (c x : Int) (hc : W32 c) (x0 : 0 ≤ x) (x1 : x < 32) : bits .and .u32 (pu c 124 (x % 4294967296 * 4 % 4294967296) / 4) 31 = x := by
  rw [show x % 4294967296 * 4 % 4294967296 = x * 4 by omega]
  have hp := w_pu c 124 (x * 4)
  have hd : W32 (pu c 124 (x * 4) / 4) := ⟨by have := hp.1; omega, by have := hp.1; have := hp.2; omega⟩
  apply tb_eq (w_and _ _) ⟨x0, by omega⟩
  intro i hi
  rw [tb_and _ _ hd ⟨by decide, by decide⟩]
  have e1 := tb_div (pu c 124 (x * 4)) hp.1 2 i
  rw [show (((2 ^ 2 : Nat)) : Int) = 4 from rfl] at e1
  rw [e1, tb_pu c 124 (x * 4) hc w124 ⟨by omega, by omega⟩]
  have e2 := tb_mul x x0 2 i
  rw [show (((2 ^ 2 : Nat)) : Int) = 4 from rfl] at e2
  rw [e2]
  by_cases h5 : i < 5
  · have : i = 0 ∨ i = 1 ∨ i = 2 ∨ i = 3 ∨ i = 4 := by omega
    rcases this with rfl | rfl | rfl | rfl | rfl
    all_goals
      rw [show tb 31 _ = true from rfl, show tb 124 _ = true from rfl]
      simp
  · rw [tb_lt 31 5 i (by decide) (by omega), tb_lt x 5 i (by omega) (by omega)]
    simp
theorem code_top (c y : Int) (hc : W32 c) (hy : W32 y) : pu c 124 y / 2147483648 = c / 2147483648 := by
  rw [tb_top _ (w_pu _ _ _), tb_top c hc, tb_pu c 124 y hc w124 hy]
  rfl
end Go.Proofs.Ytecddcbkgelcmaa
