/-
  Chapter 3, plain mathematics: instructions that are right, their words, and back.
-/
import Derived.Test.YtmjlbffphaklgaaTab
namespace Go.Proofs.Ytmjlbffphaklgaa
namespace D
set_option linter.unusedVariables false

/-! the fields of a word, as far as its Kind has them -/
def fS (W : Nat) : Nat := W / 2097152 % (mS (kW W) + 1)
def fT (W : Nat) : Nat := W / 65536 % (mT (kW W) + 1)
def fD (W : Nat) : Nat := W / 2048 % (mD (kW W) + 1)
def fH (W : Nat) : Nat := W / 64 % (mH (kW W) + 1)
def fI (W : Nat) : Nat := W % (mI (kW W) + 1)

/-- an instruction is right -/
def rg (k s t d h i : Int) : Bool := decide (1 ≤ k ∧ k ≤ 77 ∧ (0 ≤ s ∧ s ≤ mS k.toNat) ∧ (0 ≤ t ∧ t ≤ mT k.toNat) ∧ (0 ≤ d ∧ d ≤ mD k.toNat) ∧ (0 ≤ h ∧ h ≤ mH k.toNat) ∧ (0 ≤ i ∧ i ≤ mI k.toNat))
/-- the word of an instruction that is right -/
def wd (k s t d h i : Nat) : Nat := key k ||| (s * 2097152 ||| t * 65536 ||| d * 2048 ||| h * 64 ||| i)

theorem m_le : ∀ k, k < 78 → (mS k == 0 || mS k == 31) && (mT k == 0 || mT k == 31) && (mD k == 0 || mD k == 31) && (mH k == 0 || mH k == 31) && (mI k == 0 || mI k == 65535 || mI k == 67108863) = true := by decide +kernel
theorem ms (k : Nat) (h : k < 78) : mS k = 0 ∨ mS k = 31 := by have := m_le k h; simp at this; exact this.1.1.1.1
theorem mt (k : Nat) (h : k < 78) : mT k = 0 ∨ mT k = 31 := by have := m_le k h; simp at this; exact this.1.1.1.2
theorem md (k : Nat) (h : k < 78) : mD k = 0 ∨ mD k = 31 := by have := m_le k h; simp at this; exact this.1.1.2
theorem mh (k : Nat) (h : k < 78) : mH k = 0 ∨ mH k = 31 := by have := m_le k h; simp at this; exact this.1.2
theorem mi (k : Nat) (h : k < 78) : mI k = 0 ∨ mI k = 65535 ∨ mI k = 67108863 := by have := m_le k h; simp at this; omega

/-- what of a key lies where S, where T, where fn is -/
def kS (k : Nat) : Nat := key k / 2097152 % 32
def kT (k : Nat) : Nat := key k / 65536 % 32
def kF (k : Nat) : Nat := key k % 64
theorem key_is : ∀ k, k < 78 → key k = op k * 67108864 + kS k * 2097152 + kT k * 65536 + kF k := by decide +kernel
theorem apart1 : ∀ k, k < 78 → ((kS k == 0 || mS k == 0) && (kT k == 0 || mT k == 0) && (kF k == 0 || mI k == 0)) = true := by decide +kernel
theorem apart2 : ∀ k, k < 78 → (mI k == 0 || (mD k == 0 && mH k == 0)) && (mI k != 67108863 || (mS k == 0 && mT k == 0 && kS k == 0 && kT k == 0)) = true := by decide +kernel
theorem sub_is : ∀ k, k < 78 → 1 ≤ k → (if op k = 0 ∨ op k = 28 then sb k == kF k && mI k == 0 else if op k = 1 then sb k == kT k && mT k == 0 && mI k == 65535 else if op k = 16 then (if kS k = 16 then sb k == 64 + kF k && mI k == 0 && mS k == 0 else sb k == kS k && mS k == 0 && mI k == 0) else sb k == 0) = true := by decide +kernel
theorem op_lt : ∀ k, k < 78 → op k < 64 := by decide +kernel

theorem or_add (a b p : Nat) (h : b < 2 ^ p) : (a * 2 ^ p ||| b) = a * 2 ^ p + b := by
  rw [Nat.mul_comm, ← Nat.two_pow_add_eq_or_of_lt h]
theorem or_same (a b p : Nat) (h : a = 0 ∨ b = 0) : (a * p ||| b * p) = (a + b) * p := by
  rcases h with rfl | rfl <;> simp

/-- the word as a sum -/
theorem wd_sum {k s t d h i : Nat} (hk : k < 78) (hs : s ≤ mS k) (ht : t ≤ mT k) (hd : d ≤ mD k) (hh : h ≤ mH k) (hi : i ≤ mI k) :
    wd k s t d h i = key k + s * 2097152 + t * 65536 + d * 2048 + h * 64 + i := by
  have a1 := apart1 k hk
  have a2 := apart2 k hk
  simp at a1 a2
  obtain ⟨⟨b1, b2⟩, b3⟩ := a1
  obtain ⟨b4, b5⟩ := a2
  have hS := ms k hk
  have hT := mt k hk
  have hD := md k hk
  have hH := mh k hk
  have hI := mi k hk
  have e := key_is k hk
  have l1 : kS k < 32 := Nat.mod_lt _ (by omega)
  have l2 : kT k < 32 := Nat.mod_lt _ (by omega)
  have l3 : kF k < 64 := Nat.mod_lt _ (by omega)
  have hO := op_lt k hk
  -- the low part
  have low : kF k ||| (d * 2048 ||| h * 64 ||| i) = kF k + d * 2048 + h * 64 + i ∧ kF k + d * 2048 + h * 64 + i ≤ 67108863 ∧ (mI k ≠ 67108863 → kF k + d * 2048 + h * 64 + i < 65536) := by
    by_cases hz : mI k = 0
    · obtain rfl : i = 0 := by omega
      have e1 : d * 2048 ||| h * 64 = d * 2048 + h * 64 := or_add d (h * 64) 11 (by show _ < 2048; omega)
      have e2 : d * 2048 + h * 64 = (d * 32 + h) * 64 := by omega
      have e3 : (d * 32 + h) * 64 ||| kF k = (d * 32 + h) * 64 + kF k := or_add (d * 32 + h) (kF k) 6 (by show _ < 64; omega)
      refine ⟨?_, by omega, by omega⟩
      rw [Nat.or_zero, e1, e2, Nat.or_comm, e3]
      omega
    · have hf : kF k = 0 := by omega
      have hd0 : d = 0 := by omega
      have hh0 : h = 0 := by omega
      rw [hf, hd0, hh0]
      refine ⟨by simp, by omega, by omega⟩
  obtain ⟨lo, lo1, lo2⟩ := low
  generalize hL : kF k + d * 2048 + h * 64 + i = L at *
  by_cases hj : mI k = 67108863
  · have z1 : s = 0 := by omega
    have z2 : t = 0 := by omega
    have z3 : kS k = 0 := by omega
    have z4 : kT k = 0 := by omega
    have z5 : kF k = 0 := by omega
    have z6 : d = 0 := by omega
    have z7 : h = 0 := by omega
    rw [z3, z4, z5] at e
    unfold wd
    rw [e, z1, z2, z6, z7]
    simp
    exact or_add (op k) i 26 (by show _ < 67108864; omega)
  · have hL2 := lo2 hj
    have hSs : kS k + s < 32 := by omega
    have hTt : kT k + t < 32 := by omega
    have f1 : key k = op k * 67108864 ||| kS k * 2097152 ||| kT k * 65536 ||| kF k := by
      have g1 : op k * 67108864 ||| kS k * 2097152 = (op k * 32 + kS k) * 2097152 := by
        have := or_add (op k) (kS k * 2097152) 26 (by show _ < 67108864; omega)
        rw [show (2 : Nat) ^ 26 = 67108864 from rfl] at this
        rw [this]; omega
      have g2 : (op k * 32 + kS k) * 2097152 ||| kT k * 65536 = (op k * 1024 + kS k * 32 + kT k) * 65536 := by
        have := or_add (op k * 32 + kS k) (kT k * 65536) 21 (by show _ < 2097152; omega)
        rw [show (2 : Nat) ^ 21 = 2097152 from rfl] at this
        rw [this]; omega
      have g3 := or_add (op k * 1024 + kS k * 32 + kT k) (kF k) 16 (by show _ < 65536; omega)
      rw [show (2 : Nat) ^ 16 = 65536 from rfl] at g3
      rw [g1, g2, g3, e]; omega
    have f2 : wd k s t d h i = op k * 67108864 ||| (kS k * 2097152 ||| s * 2097152) ||| (kT k * 65536 ||| t * 65536) ||| (kF k ||| (d * 2048 ||| h * 64 ||| i)) := by
      unfold wd
      rw [f1]
      ac_rfl
    rw [f2, lo, or_same _ _ _ (by omega), or_same _ _ _ (by omega)]
    have g1 : op k * 67108864 ||| (kS k + s) * 2097152 = (op k * 32 + (kS k + s)) * 2097152 := by
      have := or_add (op k) ((kS k + s) * 2097152) 26 (by show _ < 67108864; omega)
      rw [show (2 : Nat) ^ 26 = 67108864 from rfl] at this
      rw [this]; omega
    have g2 : (op k * 32 + (kS k + s)) * 2097152 ||| (kT k + t) * 65536 = (op k * 1024 + (kS k + s) * 32 + (kT k + t)) * 65536 := by
      have := or_add (op k * 32 + (kS k + s)) ((kT k + t) * 65536) 21 (by show _ < 2097152; omega)
      rw [show (2 : Nat) ^ 21 = 2097152 from rfl] at this
      rw [this]; omega
    have g3 := or_add (op k * 1024 + (kS k + s) * 32 + (kT k + t)) L 16 (by show _ < 65536; omega)
    rw [show (2 : Nat) ^ 16 = 65536 from rfl] at g3
    rw [g1, g2, g3, e]
    omega
theorem wd_lt {k s t d h i : Nat} (hk : k < 78) (hs : s ≤ mS k) (ht : t ≤ mT k) (hd : d ≤ mD k) (hh : h ≤ mH k) (hi : i ≤ mI k) : wd k s t d h i < 4294967296 := by
  unfold wd
  have hS := ms k hk
  have hT := mt k hk
  have hD := md k hk
  have hH := mh k hk
  have hI := mi k hk
  have h32 : (4294967296 : Nat) = 2 ^ 32 := rfl
  rw [h32]
  exact Nat.or_lt_two_pow (key_lt k hk) (Nat.or_lt_two_pow (Nat.or_lt_two_pow (Nat.or_lt_two_pow (Nat.or_lt_two_pow (by omega) (by omega)) (by omega)) (by omega)) (by omega))

/-- an instruction that is right is itself again -/
theorem back {k s t d h i : Nat} (h1 : 1 ≤ k) (hk : k < 78) (hs : s ≤ mS k) (ht : t ≤ mT k) (hd : d ≤ mD k) (hh : h ≤ mH k) (hi : i ≤ mI k) :
    kW (wd k s t d h i) = k ∧ fS (wd k s t d h i) = s ∧ fT (wd k s t d h i) = t ∧ fD (wd k s t d h i) = d ∧ fH (wd k s t d h i) = h ∧ fI (wd k s t d h i) = i := by
  have a1 := apart1 k hk
  have a2 := apart2 k hk
  simp at a1 a2
  obtain ⟨⟨b1, b2⟩, b3⟩ := a1
  obtain ⟨b4, b5⟩ := a2
  have hS := ms k hk
  have hT := mt k hk
  have hD := md k hk
  have hH := mh k hk
  have hI := mi k hk
  have e := key_is k hk
  have l1 : kS k < 32 := Nat.mod_lt _ (by omega)
  have l2 : kT k < 32 := Nat.mod_lt _ (by omega)
  have l3 : kF k < 64 := Nat.mod_lt _ (by omega)
  have hO := op_lt k hk
  have hu := sub_is k hk h1
  have hsum := wd_sum hk hs ht hd hh hi
  rw [e] at hsum
  generalize wd k s t d h i = W at hsum
  have hop : W / 67108864 = op k := by omega
  have hsub : sb k = subW W := by
    unfold subW
    rw [hop]
    split at hu
    · rename_i hc
      rw [if_pos hc]
      simp at hu
      omega
    · rename_i hc
      rw [if_neg hc]
      split at hu
      · rename_i hc1
        rw [if_pos hc1]
        simp at hu
        omega
      · rename_i hc1
        rw [if_neg hc1]
        split at hu
        · rename_i hc2
          rw [if_pos hc2]
          split at hu
          · simp at hu
            rw [if_pos (by omega)]
            omega
          · simp at hu
            rw [if_neg (by omega)]
            omega
        · rename_i hc2
          rw [if_neg hc2]
          simpa using hu
  have hkW : kW W = k := kOS_of h1 (by omega) hop.symm hsub
  refine ⟨hkW, ?_, ?_, ?_, ?_, ?_⟩
  · unfold fS; rw [hkW]; rcases hS with z | z <;> rw [z] <;> omega
  · unfold fT; rw [hkW]; rcases hT with z | z <;> rw [z] <;> omega
  · unfold fD; rw [hkW]; rcases hD with z | z <;> rw [z] <;> omega
  · unfold fH; rw [hkW]; rcases hH with z | z <;> rw [z] <;> omega
  · unfold fI; rw [hkW]; rcases hI with z | z | z <;> rw [z] <;> omega

/-- the fields of a word are right for its Kind -/
theorem f_le (W : Nat) : fS W ≤ mS (kW W) ∧ fT W ≤ mT (kW W) ∧ fD W ≤ mD (kW W) ∧ fH W ≤ mH (kW W) ∧ fI W ≤ mI (kW W) := by
  refine ⟨?_, ?_, ?_, ?_, ?_⟩ <;> exact Nat.le_of_lt_succ (Nat.mod_lt _ (Nat.succ_pos _))
theorem f_zero {W : Nat} (h : kW W = 0) : fS W = 0 ∧ fT W = 0 ∧ fD W = 0 ∧ fH W = 0 ∧ fI W = 0 := by
  have := f_le W
  rw [h] at this
  have a : mS 0 = 0 := rfl
  have b : mT 0 = 0 := rfl
  have c : mD 0 = 0 := rfl
  have d : mH 0 = 0 := rfl
  have e : mI 0 = 0 := rfl
  omega
end D
end Go.Proofs.Ytmjlbffphaklgaa
