/-
  Chapter 5, plain mathematics: whether an instruction leads elsewhere, where it leads, the register that gets the place behind, as functions of integers.
-/
import Derived.Test.YtmjlbffphaklgaaCom
namespace Go.Proofs.Ytmjlbffphaklgaa
open Go.RowKit
set_option linter.unusedVariables false

/-- a Kind is a branch -/
def brK (k : Int) : Bool := decide (k = 7 ∨ k = 8 ∨ (36 ≤ k ∧ k ≤ 45))
/-- a branch of Kind k is taken -/
def tk (k : Nat) (s t : Int) : Bool :=
  match k with
  | 7 => true
  | 8 => true
  | 36 => decide (2147483648 ≤ s)
  | 37 => !decide (2147483648 ≤ s)
  | 38 => decide (2147483648 ≤ s)
  | 39 => !decide (2147483648 ≤ s)
  | 40 => true
  | 41 => true
  | 42 => s == t
  | 43 => s != t
  | 44 => decide (2147483648 ≤ s) || s == 0
  | 45 => !decide (2147483648 ≤ s) && s != 0
  | _ => false
def tkI (k s t : Int) : Bool := if brK k = true then tk k.toNat s t else false
/-- where a branch of Kind k leads -/
def tg (k : Nat) (i pc s : Int) : Int :=
  match k with
  | 7 => s
  | 8 => s
  | 40 => (pc + 4) % 4294967296 / 268435456 * 268435456 + i * 4
  | 41 => (pc + 4) % 4294967296 / 268435456 * 268435456 + i * 4
  | _ => (pc + 4 + W.sign i 16 * 4) % 4294967296
def tgI (k i pc s : Int) : Int := if brK k = true then tg k.toNat i pc s else (pc + 4) % 4294967296
/-- the register that gets the place behind -/
def lkI (k d : Int) : Int := if k = 41 ∨ k = 38 ∨ k = 39 then 31 else if k = 8 then d else 0
def lkB (k : Int) : Bool := decide (k = 41 ∨ k = 38 ∨ k = 39 ∨ k = 8)

theorem ret_pair {a c : Int} {b d : Bool} (h : a = c) (g : b = d) : Ending.returned (.tuple #[.int .i64 a, .bool b]) = .returned (.tuple #[.int .i64 c, .bool d]) := by rw [h, g]
theorem less_neg (s : Int) (s0 : 0 ≤ s) (s1 : s < 4294967296) : decide (wideS s true < wideS 0 true) = decide (2147483648 ≤ s) := by
  simp only [wideS, if_true]
  rw [W.w32 s s0 s1, show wrap32 0 = 0 by unfold wrap32; omega]
  congr 1
  rw [eq_iff_iff]
  split <;> omega
theorem less_pos (s : Int) (s0 : 0 ≤ s) (s1 : s < 4294967296) : decide (wideS 0 true < wideS s true) = (!decide (2147483648 ≤ s) && s != 0) := by
  simp only [wideS, if_true]
  rw [W.w32 s s0 s1, show wrap32 0 = 0 by unfold wrap32; omega, Bool.eq_iff_iff]
  simp
  split <;> omega
theorem andm (m : Nat) (hm : m ≤ 32) (s : Int) (h0 : 0 ≤ s) (h1 : s < 4294967296) : bits .and .u32 s ((2 ^ m - 1 : Nat) : Int) = s % ((2 ^ m : Nat) : Int) := by
  obtain ⟨n, rfl⟩ := Int.eq_ofNat_of_zero_le h0
  have h2 : 2 ^ m ≤ 2 ^ 32 := Nat.pow_le_pow_right (by omega) hm
  have h3 : (0 : Nat) < 2 ^ m := Nat.two_pow_pos m
  rw [Go.u32_and_nat _ _ (by omega) (by omega), Nat.and_two_pow_sub_one_eq_mod]
  omega
theorem and2 (s : Int) (h0 : 0 ≤ s) (h1 : s < 4294967296) : bits .and .u32 s 3 = s % 4 := by
  rw [show (3 : Int) = ((2 ^ 2 - 1 : Nat) : Int) from rfl, andm 2 (by omega) s h0 h1]
  rfl
theorem and8 (s : Int) (h0 : 0 ≤ s) (h1 : s < 4294967296) : bits .and .u32 s 255 = s % 256 := by
  rw [show (255 : Int) = ((2 ^ 8 - 1 : Nat) : Int) from rfl, andm 8 (by omega) s h0 h1]
  rfl
theorem and15 (s : Int) (h0 : 0 ≤ s) (h1 : s < 4294967296) : bits .and .u32 s 32767 = s % 32768 := by
  rw [show (32767 : Int) = ((2 ^ 15 - 1 : Nat) : Int) from rfl, andm 15 (by omega) s h0 h1]
  rfl
theorem and16 (s : Int) (h0 : 0 ≤ s) (h1 : s < 4294967296) : bits .and .u32 s 65535 = s % 65536 := by
  rw [show (65535 : Int) = ((2 ^ 16 - 1 : Nat) : Int) from rfl, andm 16 (by omega) s h0 h1]
  rfl
theorem and26 (s : Int) (h0 : 0 ≤ s) (h1 : s < 4294967296) : bits .and .u32 s 67108863 = s % 67108864 := by
  rw [show (67108863 : Int) = ((2 ^ 26 - 1 : Nat) : Int) from rfl, andm 26 (by omega) s h0 h1]
  rfl
theorem and28 (s : Int) (h0 : 0 ≤ s) (h1 : s < 4294967296) : bits .and .u32 s 268435455 = s % 268435456 := by
  rw [show (268435455 : Int) = ((2 ^ 28 - 1 : Nat) : Int) from rfl, andm 28 (by omega) s h0 h1]
  rfl
theorem and_top (s : Int) (h0 : 0 ≤ s) (h1 : s < 4294967296) : bits .and .u32 s 4026531840 = s / 268435456 * 268435456 := by
  obtain ⟨n, rfl⟩ := Int.eq_ofNat_of_zero_le h0
  rw [show (4026531840 : Int) = ((4026531840 : Nat) : Int) from rfl, Go.u32_and_nat _ _ (by omega) (by omega)]
  have e : n &&& 4026531840 = n / 268435456 * 268435456 := by
    have hn : n < 2 ^ 32 := by omega
    rw [show (4026531840 : Nat) = 15 * 2 ^ 28 from rfl, show (268435456 : Nat) = 2 ^ 28 from rfl]
    apply Nat.eq_of_testBit_eq
    intro j
    rw [Nat.testBit_and, Nat.testBit_mul_two_pow, Nat.testBit_mul_two_pow, Nat.testBit_div_two_pow]
    by_cases hj : 28 ≤ j
    · rw [show j - 28 + 28 = j by omega]
      simp only [hj, decide_true, Bool.true_and]
      by_cases hk : j < 32
      · rw [show (15 : Nat) = 2 ^ 4 - 1 from rfl, Nat.testBit_two_pow_sub_one, decide_eq_true (show j - 28 < 4 by omega), Bool.and_true]
      · rw [Nat.testBit_lt_two_pow (Nat.lt_of_lt_of_le hn (Nat.pow_le_pow_right (by omega) (by omega)))]; simp
    · simp [hj]
  rw [e]
  omega
theorem or_sum (a b : Int) (a0 : 0 ≤ a) (a1 : a < 16) (b0 : 0 ≤ b) (b1 : b < 268435456) : bits .or .u32 (a * 268435456) b = a * 268435456 + b := by
  obtain ⟨x, rfl⟩ := Int.eq_ofNat_of_zero_le a0
  obtain ⟨y, rfl⟩ := Int.eq_ofNat_of_zero_le b0
  have e : 2 ^ 28 * x + y = (2 ^ 28 * x) ||| y := Nat.two_pow_add_eq_or_of_lt (show y < 2 ^ 28 by omega) x
  have e2 := Go.u32_or_nat (x * 268435456) y (by omega) (by omega)
  rw [show ((x : Int) * 268435456) = ((x * 268435456 : Nat) : Int) by omega, e2]
  rw [Nat.mul_comm x 268435456, show (268435456 : Nat) = 2 ^ 28 from rfl, ← e]
  omega
theorem sg_rng (i : Int) (h0 : 0 ≤ i) (h1 : i < 4294967296) : 0 ≤ W.sign i 16 ∧ W.sign i 16 < 4294967296 := W.sign_rng i 16 h0 h1
/-- the sign of 16 bits -/
theorem sg_lo (i : Int) (h0 : 0 ≤ i) (h1 : i < 32768) : W.sign i 16 = i := by
  rw [W.sign_of i 16 (by omega) (by omega)]
  simp only [show (16 : Int).toNat = 16 from rfl]
  omega
theorem sg_hi (i : Int) (h0 : 32768 ≤ i) (h1 : i < 65536) : W.sign i 16 = i + 4294901760 := by
  rw [W.sign_of i 16 (by omega) (by omega)]
  simp only [show (16 : Int).toNat = 16 from rfl]
  omega
end Go.Proofs.Ytmjlbffphaklgaa
