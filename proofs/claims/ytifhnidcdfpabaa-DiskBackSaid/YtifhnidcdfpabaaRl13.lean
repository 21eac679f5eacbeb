/-
  Chapter 2: Load, of the program's memory and of the document's.
-/
import Derived.Test.YtifhnidcdfpabaaRm13
import Derived.Laws.BitsAllLaws
namespace Go.Proofs.Ytifhnidcdfpabaa
open Go.RowKit
set_option linter.unusedVariables false

/-- the number of the first k bytes from a on, the highest first -/
def ld (C : Nat → Int) (a : Nat) : Nat → Int
  | 0 => 0
  | k + 1 => ld C a k * 256 + C (a + k)
theorem ld_lo (C : Nat → Int) (a k : Nat) (c0 : ∀ i, 0 ≤ C i) : 0 ≤ ld C a k := by
  induction k with
  | zero => simp [ld]
  | succ k ih => have := c0 (a + k); simp only [ld]; omega
theorem ld_hi (C : Nat → Int) (a k : Nat) (c0 : ∀ i, 0 ≤ C i) (c1 : ∀ i, C i ≤ 255) : ld C a k < 256 ^ k := by
  induction k with
  | zero => simp [ld]
  | succ k ih => have := c1 (a + k); have := ld_lo C a k c0; simp only [ld, Int.pow_succ]; omega
theorem or_byte (x c : Int) (h0 : 0 ≤ x) (h1 : x < 16777216) (c0 : 0 ≤ c) (c1 : c ≤ 255) : bits .or .u32 (x * 256 % 4294967296) c = x * 256 + c := by
  rw [u32_or _ _ (by omega) (by omega) (by omega) (by omega), nat_join 8 _ _ (by omega) (by omega)]
  omega
/-- what Load answers -/
def loadV (p : Nat) (C : Nat → Int) (a n : Int) : Value := .tuple #[.int .u32 (if okN p a n then ld C a.toNat n.toNat else 0), .bool (okN p a n)]

theorem ld_24 (C : Nat → Int) (a k : Nat) (c0 : ∀ i, 0 ≤ C i) (c1 : ∀ i, C i ≤ 255) (hk : k < 4) : ld C a k < 16777216 := by
  have h := ld_hi C a k c0 c1
  have : k = 0 ∨ k = 1 ∨ k = 2 ∨ k = 3 := by omega
  rcases this with rfl | rfl | rfl | rfl <;> omega
theorem ret_load {p k A : Nat} {C : Nat → Int} (h : okN p A k = true) : Ending.returned (.tuple #[.int .u32 (ld C A k), .bool true]) = .returned (loadV p C A k) := by simp [loadV, h]

theorem ret_load' {p k A : Nat} {n : Int} {C : Nat → Int} (h : okN p A n = true) (e : n = k) : Ending.returned (.tuple #[.int .u32 (ld C A k), .bool true]) = .returned (loadV p C A n) := by subst e; exact ret_load h
section
variable {w : World} {g b m t p : Nat} {C : Nat → Int} {M D : Nat → Bool}
end
end Go.Proofs.Ytifhnidcdfpabaa
