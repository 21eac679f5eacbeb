/-
  Chapter 4, plain mathematics: the number that an instruction makes, whether it is given up, HI and LO behind it, as functions of integers.
-/
import Derived.Test.YtfdgmenlefojbaaCom
namespace Go.Proofs.Ytfdgmenlefojbaa
open Go.RowKit
set_option linter.unusedVariables false

def b2i (b : Bool) : Int := if b = true then 1 else 0
/-- the number that an instruction of Kind k makes -/
def nv (k : Nat) (h i s t : Int) : Int :=
  match k with
  | 1 => t * 2 ^ (h % 32).toNat % 4294967296
  | 2 => t / 2 ^ (h % 32).toNat
  | 3 => W.sar t h
  | 4 => t * 2 ^ (s % 32).toNat % 4294967296
  | 5 => t / 2 ^ (s % 32).toNat
  | 6 => W.sar t s
  | 22 => (s + t) % 4294967296
  | 23 => (s + t) % 4294967296
  | 24 => (s - t) % 4294967296
  | 25 => (s - t) % 4294967296
  | 26 => bits .and .u32 s t
  | 27 => bits .or .u32 s t
  | 28 => bits .xor .u32 s t
  | 29 => bits .xor .u32 IntKind.u32.max (bits .or .u32 s t)
  | 30 => b2i (decide (wideS s true < wideS t true))
  | 31 => b2i (decide (wideS s false < wideS t false))
  | 46 => (s + W.sign i 16) % 4294967296
  | 47 => (s + W.sign i 16) % 4294967296
  | 48 => b2i (decide (wideS s true < wideS (W.sign i 16) true))
  | 49 => b2i (decide (wideS s false < wideS (W.sign i 16) false))
  | 50 => bits .and .u32 s i
  | 51 => bits .or .u32 s i
  | 52 => bits .xor .u32 s i
  | 53 => i * 65536 % 4294967296
  | 63 => s * t % 4294967296
  | 64 => W.clz s
  | 65 => W.clz (4294967295 - s)
  | _ => 0
/-- a Kind makes a number -/
def isN (k : Int) : Bool := decide ((1 ≤ k ∧ k ≤ 6) ∨ (22 ≤ k ∧ k ≤ 31) ∨ (46 ≤ k ∧ k ≤ 53) ∨ (63 ≤ k ∧ k ≤ 65))
def nvI (k h i s t : Int) : Int := if isN k = true then nv k.toNat h i s t else 0
/-- an instruction of Kind k is given up -/
def tr (k : Nat) (i s t : Int) : Bool :=
  match k with
  | 22 => over s t false
  | 24 => over s t true
  | 46 => over s (W.sign i 16) false
  | 32 => !decide (wideS s true < wideS t true)
  | 33 => decide (wideS s true < wideS t true)
  | 34 => s == t
  | 35 => s != t
  | _ => false
def isT (k : Int) : Bool := decide (k = 22 ∨ k = 24 ∨ k = 46 ∨ (32 ≤ k ∧ k ≤ 35))
def trI (k i s t : Int) : Bool := if isT k = true then tr k.toNat i s t else false
/-- HI and LO behind an instruction of Kind k -/
def hH (k : Nat) (s t hi : Int) : Int :=
  match k with
  | 18 => W.mulH s t true
  | 19 => W.mulH s t false
  | 20 => W.divR s t true
  | 21 => W.divR s t false
  | 15 => s
  | _ => hi
def hL (k : Nat) (s t lo : Int) : Int :=
  match k with
  | 18 => W.mulL s t
  | 19 => W.mulL s t
  | 20 => W.divQ s t true
  | 21 => W.divQ s t false
  | 17 => s
  | _ => lo
def isH (k : Int) : Bool := decide (k = 15 ∨ (17 ≤ k ∧ k ≤ 21))
def hHI (k s t hi : Int) : Int := if isH k = true then hH k.toNat s t hi else hi
def hLI (k s t lo : Int) : Int := if isH k = true then hL k.toNat s t lo else lo
/-- the register that the number goes to -/
def into (k t d : Int) : Int := if isN k = true then (if 46 ≤ k ∧ k ≤ 53 then t else d) else 0

theorem ret_nb {a c : Int} {b : Bool} (h : a = c) : Ending.returned (.tuple #[.int .u32 a, .bool b]) = .returned (.tuple #[.int .u32 c, .bool b]) := by rw [h]
theorem ret_tri {a b c d : Int} {x : Bool} (h : a = c) (g : b = d) : Ending.returned (.tuple #[.int .u32 a, .int .u32 b, .bool x]) = .returned (.tuple #[.int .u32 c, .int .u32 d, .bool x]) := by rw [h, g]
theorem and31u (s : Int) (h0 : 0 ≤ s) (h1 : s < 4294967296) : bits .and .u32 s 31 = s % 32 := by
  obtain ⟨m, rfl⟩ := Int.eq_ofNat_of_zero_le h0
  rw [show (31 : Int) = ((31 : Nat) : Int) from rfl, Go.u32_and_nat _ _ (by omega) (by omega), Go.nat_mask5]
  omega
theorem and16 (s : Int) (h0 : 0 ≤ s) (h1 : s < 4294967296) : bits .and .u32 s 65535 = s % 65536 := by
  obtain ⟨m, rfl⟩ := Int.eq_ofNat_of_zero_le h0
  rw [show (65535 : Int) = ((65535 : Nat) : Int) from rfl, Go.u32_and_nat _ _ (by omega) (by omega), show (65535 : Nat) = 2 ^ 16 - 1 from rfl, Nat.and_two_pow_sub_one_eq_mod]
  omega
theorem sg_rng (i : Int) (h0 : 0 ≤ i) (h1 : i < 4294967296) : 0 ≤ W.sign i 16 ∧ W.sign i 16 < 4294967296 := W.sign_rng i 16 h0 h1
theorem clz_rng (v : Int) (h0 : 0 ≤ v) (h1 : v < 4294967296) : 0 ≤ W.clz v ∧ W.clz v ≤ 32 := by
  have := W.blen_rng v h0 h1
  unfold W.clz
  omega
end Go.Proofs.Ytfdgmenlefojbaa
