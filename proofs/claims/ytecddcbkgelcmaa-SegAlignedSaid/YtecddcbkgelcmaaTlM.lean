/-
  Chapter 7, plain mathematics: the table as functions of what a State holds.
-/
import Derived.Test.YtecddcbkgelcmaaTwo
namespace Go.Proofs.Ytecddcbkgelcmaa
open Go.RowKit
set_option linter.unusedVariables false
theorem andm (m : Nat) (hm : m ≤ 32) (s : Int) (h : W32 s) : bits .and .u32 s ((2 ^ m - 1 : Nat) : Int) = s % ((2 ^ m : Nat) : Int) := by
  obtain ⟨h0, h1⟩ := h
  obtain ⟨n, rfl⟩ := Int.eq_ofNat_of_zero_le h0
  have h2 : 2 ^ m ≤ 2 ^ 32 := Nat.pow_le_pow_right (by omega) hm
  have h3 : (0 : Nat) < 2 ^ m := Nat.two_pow_pos m
  rw [Go.u32_and_nat _ _ (by omega) (by omega), Nat.and_two_pow_sub_one_eq_mod]
  omega
theorem and7 (s : Int) (h : W32 s) : bits .and .u32 s 7 = s % 8 := andm 3 (by omega) s h
theorem and1023 (s : Int) (h : W32 s) : bits .and .u32 s 1023 = s % 1024 := andm 10 (by omega) s h
theorem w1023 : W32 1023 := ⟨by decide, by decide⟩
theorem low1023 : ∀ i, i < 10 → tb 1023 i = true := by decide
theorem page_of (x : Int) (hx : W32 x) : bits .andNot .u32 x 1023 = x / 1024 * 1024 := by
  have h0 := hx.1
  have h1 := hx.2
  have hw : W32 (x / 1024 * 1024) := ⟨by omega, by omega⟩
  apply tb_eq (w_andNot _ _) hw
  intro i hi
  rw [tb_andNot x 1023 hx w1023]
  by_cases h : i < 10
  · rw [low1023 i h]
    obtain ⟨n, hn⟩ := Int.eq_ofNat_of_zero_le (show 0 ≤ x / 1024 by omega)
    rw [hn]
    unfold tb
    rw [show ((n : Int) * 1024).toNat = n * 2 ^ 10 by rw [show (1024 : Int) = ((1024 : Nat) : Int) from rfl, ← Int.natCast_mul]; rfl, Nat.testBit_mul_two_pow]
    simp
    intro h10
    omega
  · obtain ⟨j, rfl⟩ : ∃ j, i = j + 10 := ⟨i - 10, by omega⟩
    rw [tb_lt 1023 10 (j + 10) (by decide) (by omega)]
    have e1 := tb_mul (x / 1024) (by omega) 10 j
    have e2 := tb_div x h0 10 j
    rw [show (((2 ^ 10 : Nat)) : Int) = 1024 from rfl] at e1 e2
    rw [e1, e2]
    simp
theorem page_iff (x y : Int) (hx : W32 x) (hy : W32 y) : (bits .andNot .u32 x 1023 == bits .andNot .u32 y 1023) = decide (x / 1024 = y / 1024) := by
  rw [page_of x hx, page_of y hy]
  by_cases h : x / 1024 = y / 1024
  · rw [h]; simp
  · have : ¬ x / 1024 * 1024 = y / 1024 * 1024 := by omega
    simp [h]
    exact this
/-! the search -/
/-- the entry is the page's -/
def pgB (s : St) (va : Int) (k : Nat) : Bool := bits .andNot .u32 (s.H k) 1023 == bits .andNot .u32 va 1023
def glB (s : St) (k : Nat) : Bool := bits .and .u32 (s.L k) 4 != 0
def spB (s : St) (k : Nat) : Bool := bits .and .u32 (s.H k) 255 == bits .and .u32 (s.C 10) 255
def hitB (s : St) (va : Int) (k : Nat) : Bool := pgB s va k && (glB s k || spB s k)
/-- the first one from k on, of so many -/
def seekF (s : St) (va : Int) : Nat → Nat → Int
  | 0, _ => -1
  | n + 1, k => if hitB s va k then (k : Int) else seekF s va n (k + 1)
def findF (s : St) (va : Int) : Int := seekF s va 8 0
theorem seek_hit {s : St} {va : Int} : ∀ (n k j : Nat), k ≤ j → j < k + n → hitB s va j = true → (∀ i, k ≤ i → i < j → hitB s va i = false) → seekF s va n k = j
  | 0, k, j, h1, h2, _, _ => by omega
  | n + 1, k, j, h1, h2, h, hn => by
    unfold seekF
    by_cases e : j = k
    · subst e; rw [if_pos h]
    · rw [if_neg (by rw [hn k (Nat.le_refl _) (by omega)]; decide)]
      exact seek_hit n (k + 1) j (by omega) (by omega) h (fun i a b => hn i (by omega) b)
theorem seek_none {s : St} {va : Int} : ∀ (n k : Nat), (∀ i, k ≤ i → i < k + n → hitB s va i = false) → seekF s va n k = -1
  | 0, k, _ => rfl
  | n + 1, k, h => by
    unfold seekF
    rw [if_neg (by rw [h k (Nat.le_refl _) (by omega)]; decide)]
    exact seek_none n (k + 1) (fun i a b => h i (by omega) (by omega))
theorem seek_rng {s : St} {va : Int} : ∀ (n k : Nat), seekF s va n k = -1 ∨ ((k : Int) ≤ seekF s va n k ∧ seekF s va n k < k + n)
  | 0, k => .inl rfl
  | n + 1, k => by
    unfold seekF
    split
    · exact .inr ⟨by omega, by omega⟩
    · rcases seek_rng (s := s) (va := va) n (k + 1) with h | h
      · exact .inl h
      · exact .inr ⟨by omega, by omega⟩
theorem seek_le {s : St} {va : Int} : ∀ (n k j : Nat), k ≤ j → j < k + n → hitB s va j = true → (k : Int) ≤ seekF s va n k ∧ seekF s va n k ≤ j
  | 0, k, j, h1, h2, _ => by omega
  | n + 1, k, j, h1, h2, h => by
    unfold seekF
    split
    · exact ⟨by omega, by omega⟩
    · rename_i hk
      have : j ≠ k := fun e => hk (e ▸ h)
      have := seek_le n (k + 1) j (by omega) (by omega) h
      exact ⟨by omega, by omega⟩
theorem find_hit {s : St} {va : Int} {k : Nat} (hk : k < 8) (h : hitB s va k = true) (hn : ∀ i, i < k → hitB s va i = false) : findF s va = k := seek_hit 8 0 k (by omega) (by omega) h (fun i _ b => hn i b)
theorem find_none {s : St} {va : Int} (h : ∀ i, i < 8 → hitB s va i = false) : findF s va = -1 := seek_none 8 0 (fun i _ b => h i (by omega))
theorem find_rng (s : St) (va : Int) : findF s va = -1 ∨ (0 ≤ findF s va ∧ findF s va < 8) := by
  have := seek_rng (s := s) (va := va) 8 0
  unfold findF
  omega
theorem find_le {s : St} {va : Int} {k : Nat} (hk : k < 8) (h : hitB s va k = true) : 0 ≤ findF s va ∧ findF s va ≤ k := by
  have := seek_le 8 0 k (by omega) (by omega) h
  unfold findF
  omega
/-! where an address lies -/
def missI7 (st : Bool) : Int := if st then 3 else 2
def lookF (s : St) (va : Int) (st : Bool) : Int × Int × Bool :=
  if findF s va = -1 then (0, missI7 st, true)
  else if bits .and .u32 (s.L (findF s va).toNat) 1 = 0 then (0, missI7 st, false)
  else if st = true ∧ bits .and .u32 (s.L (findF s va).toNat) 2 = 0 then (0, 1, false)
  else (bits .or .u32 (bits .andNot .u32 (s.L (findF s va).toNat) 1023) (bits .and .u32 va 1023), -1, false)
def lookV (s : St) (va : Int) (st : Bool) : Value := .tuple #[.int .u32 (lookF s va st).1, .int .i64 (lookF s va st).2.1, .bool (lookF s va st).2.2]
/-! entries and registers -/
def getF (s : St) : St := wrF (wrF s 10 (s.H (s.C 0 % 8).toNat)) 2 (s.L (s.C 0 % 8).toNat)
def chF (s : St) (r : Bool) : Int := if r then s.C 9 % 8 else s.C 0 % 8
def putF (s : St) (r : Bool) : St := (s.setH (chF s r).toNat (s.C 10)).setL (chF s r).toNat (s.C 2)
def prb0 (s : St) : St := s.setC 0 2147483648
def prbF (s : St) : St := if findF (prb0 s) ((prb0 s).C 10) = -1 then prb0 s else (prb0 s).setC 0 (findF (prb0 s) ((prb0 s).C 10))
theorem ch_rng (s : St) (r : Bool) : 0 ≤ chF s r ∧ chF s r < 8 := by unfold chF; split <;> omega
end Go.Proofs.Ytecddcbkgelcmaa
