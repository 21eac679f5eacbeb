/-
  Chapter 3, plain mathematics: the table of instructions by Kind (op, what a word is looked up by beside it, the fields), and what words and instructions are by it.
-/
import Derived.Laws.BitsAllLaws
namespace Go.Proofs.Ytmjlbffphaklgaa
namespace D
set_option linter.unusedVariables false

def op (k : Nat) : Nat := (#[0, 0, 0, 0, 0, 0, 0, 0, 0, 0, 0, 0, 0, 0, 0, 0, 0, 0, 0, 0, 0, 0, 0, 0, 0, 0, 0, 0, 0, 0, 0, 0, 0, 0, 0, 0, 1, 1, 1, 1, 2, 3, 4, 5, 6, 7, 8, 9, 10, 11, 12, 13, 14, 15, 16, 16, 16, 16, 16, 16, 16, 16, 17, 28, 28, 28, 32, 33, 35, 36, 37, 40, 41, 43, 48, 56, 47, 51] : Array Nat).getD k 0
def sb (k : Nat) : Nat := (#[0, 0, 2, 3, 4, 6, 7, 8, 9, 10, 11, 12, 13, 15, 16, 17, 18, 19, 24, 25, 26, 27, 32, 33, 34, 35, 36, 37, 38, 39, 42, 43, 48, 50, 52, 54, 0, 1, 16, 17, 0, 0, 0, 0, 0, 0, 0, 0, 0, 0, 0, 0, 0, 0, 0, 4, 65, 66, 70, 72, 88, 96, 0, 2, 32, 33, 0, 0, 0, 0, 0, 0, 0, 0, 0, 0, 0, 0] : Array Nat).getD k 0
def key (k : Nat) : Nat := (#[0, 0, 2, 3, 4, 6, 7, 8, 9, 10, 11, 12, 13, 15, 16, 17, 18, 19, 24, 25, 26, 27, 32, 33, 34, 35, 36, 37, 38, 39, 42, 43, 48, 50, 52, 54, 67108864, 67174400, 68157440, 68222976, 134217728, 201326592, 268435456, 335544320, 402653184, 469762048, 536870912, 603979776, 671088640, 738197504, 805306368, 872415232, 939524096, 1006632960, 1073741824, 1082130432, 1107296257, 1107296258, 1107296262, 1107296264, 1107296280, 1107296288, 1140850688, 1879048194, 1879048224, 1879048225, 2147483648, 2214592512, 2348810240, 2415919104, 2483027968, 2684354560, 2751463424, 2885681152, 3221225472, 3758096384, 3154116608, 3422552064] : Array Nat).getD k 0
def mS (k : Nat) : Nat := (#[0, 0, 0, 0, 31, 31, 31, 31, 31, 31, 31, 0, 0, 0, 0, 31, 0, 31, 31, 31, 31, 31, 31, 31, 31, 31, 31, 31, 31, 31, 31, 31, 31, 31, 31, 31, 31, 31, 31, 31, 0, 0, 31, 31, 31, 31, 31, 31, 31, 31, 31, 31, 31, 0, 0, 0, 0, 0, 0, 0, 0, 0, 0, 31, 31, 31, 31, 31, 31, 31, 31, 31, 31, 31, 31, 31, 0, 0] : Array Nat).getD k 0
def mT (k : Nat) : Nat := (#[0, 31, 31, 31, 31, 31, 31, 0, 0, 31, 31, 0, 0, 0, 0, 0, 0, 0, 31, 31, 31, 31, 31, 31, 31, 31, 31, 31, 31, 31, 31, 31, 31, 31, 31, 31, 0, 0, 0, 0, 0, 0, 31, 31, 0, 0, 31, 31, 31, 31, 31, 31, 31, 31, 31, 31, 0, 0, 0, 0, 0, 0, 0, 31, 0, 0, 31, 31, 31, 31, 31, 31, 31, 31, 31, 31, 0, 0] : Array Nat).getD k 0
def mD (k : Nat) : Nat := (#[0, 31, 31, 31, 31, 31, 31, 0, 31, 31, 31, 0, 0, 0, 31, 0, 31, 0, 0, 0, 0, 0, 31, 31, 31, 31, 31, 31, 31, 31, 31, 31, 0, 0, 0, 0, 0, 0, 0, 0, 0, 0, 0, 0, 0, 0, 0, 0, 0, 0, 0, 0, 0, 0, 31, 31, 0, 0, 0, 0, 0, 0, 0, 31, 31, 31, 0, 0, 0, 0, 0, 0, 0, 0, 0, 0, 0, 0] : Array Nat).getD k 0
def mH (k : Nat) : Nat := (#[0, 31, 31, 31, 0, 0, 0, 0, 0, 0, 0, 0, 0, 0, 0, 0, 0, 0, 0, 0, 0, 0, 0, 0, 0, 0, 0, 0, 0, 0, 0, 0, 0, 0, 0, 0, 0, 0, 0, 0, 0, 0, 0, 0, 0, 0, 0, 0, 0, 0, 0, 0, 0, 0, 0, 0, 0, 0, 0, 0, 0, 0, 0, 0, 0, 0, 0, 0, 0, 0, 0, 0, 0, 0, 0, 0, 0, 0] : Array Nat).getD k 0
def mI (k : Nat) : Nat := (#[0, 0, 0, 0, 0, 0, 0, 0, 0, 0, 0, 0, 0, 0, 0, 0, 0, 0, 0, 0, 0, 0, 0, 0, 0, 0, 0, 0, 0, 0, 0, 0, 0, 0, 0, 0, 65535, 65535, 65535, 65535, 67108863, 67108863, 65535, 65535, 65535, 65535, 65535, 65535, 65535, 65535, 65535, 65535, 65535, 65535, 0, 0, 0, 0, 0, 0, 0, 0, 0, 0, 0, 0, 65535, 65535, 65535, 65535, 65535, 65535, 65535, 65535, 65535, 65535, 0, 0] : Array Nat).getD k 0
def fx (k : Nat) : Nat := (#[0, 10, 10, 10, 7, 7, 7, 3, 4, 7, 7, 0, 0, 0, 1, 3, 1, 3, 6, 6, 6, 6, 7, 7, 7, 7, 7, 7, 7, 7, 7, 7, 6, 6, 6, 6, 5, 5, 5, 5, 2, 2, 8, 8, 5, 5, 8, 8, 8, 8, 8, 8, 8, 11, 9, 9, 0, 0, 0, 0, 0, 0, 0, 7, 4, 4, 8, 8, 8, 8, 8, 8, 8, 8, 8, 8, 0, 0] : Array Nat).getD k 0
def fstr (n : Nat) : ByteArray := ((#[#[], #[100], #[106], #[115], #[115, 100], #[115, 105], #[115, 116], #[115, 116, 100], #[115, 116, 105], #[116, 100], #[116, 100, 104], #[116, 105]] : Array (Array UInt8)).getD n #[]) |> ByteArray.mk
def fld (k : Nat) : ByteArray := fstr (fx k)
def gF (k : Nat) : Nat := (#[1, 36, 40, 54, 56, 62, 63, 66, 78] : Array Nat).getD k 0
def gL (k : Nat) : Nat := (#[35, 39, 53, 55, 61, 62, 65, 77] : Array Nat).getD k 0
def gS (k : Nat) : Nat := (#[4227858432, 4227858432, 0, 4227858432, 4292870144, 0, 4227858432, 0] : Array Nat).getD k 0
def gA (k : Nat) : Nat := (#[63, 2031616, 4227858432, 65011712, 63, 4227858432, 63, 4227858432] : Array Nat).getD k 0
def plK (i : Nat) : Nat := (#[40, 41, 42, 43, 44, 45, 46, 47, 48, 49, 50, 51, 52, 53, 62, 66, 67, 68, 69, 70, 71, 72, 73, 76, 74, 77, 75] : Array Nat).getD i 0
def otK (i : Nat) : Nat := (#[36, 37, 38, 39, 54, 55, 56, 57, 58, 59, 60, 61, 63, 64, 65] : Array Nat).getD i 0
def spK (i : Nat) : Nat := i + 1

/-- what a word is looked up by beside its op -/
def subW (w : Nat) : Nat := if w / 67108864 = 0 ∨ w / 67108864 = 28 then w % 64 else if w / 67108864 = 1 then w / 65536 % 32 else if w / 67108864 = 16 then (if w / 2097152 % 32 = 16 then 64 + w % 64 else w / 2097152 % 32) else 0
/-- the Kind of an op and what is beside it -/
def kOS (o s : Nat) : Nat := ((List.range 78).find? fun k => decide (1 ≤ k) && (op k == o && sb k == s)).getD 0
/-- the Kind of a word -/
def kW (w : Nat) : Nat := kOS (w / 67108864) (subW w)

theorem uniqB : ∀ k, k < 78 → ∀ j, j < 78 → (decide (k = 0) || decide (j = 0) || op k != op j || sb k != sb j || k == j) = true := by decide +kernel
theorem uniq (k : Nat) (hk : k < 78) (j : Nat) (hj : j < 78) (h1 : 1 ≤ k) (h2 : 1 ≤ j) (h3 : op k = op j) (h4 : sb k = sb j) : k = j := by
  have := uniqB k hk j hj
  simp [h3, h4] at this
  omega
theorem kOS_le (o s : Nat) : kOS o s ≤ 77 := by
  unfold kOS
  cases h : (List.range 78).find? fun k => decide (1 ≤ k) && (op k == o && sb k == s) with
  | none => simp
  | some k =>
    have := List.mem_of_find?_eq_some h
    simp at this ⊢
    omega
theorem kOS_pos {o s : Nat} (h : 1 ≤ kOS o s) : op (kOS o s) = o ∧ sb (kOS o s) = s := by
  unfold kOS at *
  cases e : (List.range 78).find? fun k => decide (1 ≤ k) && (op k == o && sb k == s) with
  | none => rw [e] at h; simp at h
  | some k =>
    have := List.find?_some e
    simp at this ⊢
    exact this.2
theorem kOS_of {o s k : Nat} (h1 : 1 ≤ k) (h2 : k ≤ 77) (ho : op k = o) (hs : sb k = s) : kOS o s = k := by
  have hp : 1 ≤ kOS o s := by
    unfold kOS
    cases e : (List.range 78).find? fun k => decide (1 ≤ k) && (op k == o && sb k == s) with
    | none =>
      have := List.find?_eq_none.1 e k (by simp; omega)
      simp [ho, hs] at this
      omega
    | some j =>
      have := List.find?_some e
      simp at this ⊢
      exact this.1
  obtain ⟨e1, e2⟩ := kOS_pos hp
  exact uniq _ (by have := kOS_le o s; omega) _ (by omega) hp h1 (by omega) (by omega)
theorem kW_le (w : Nat) : kW w ≤ 77 := kOS_le _ _

/-! bits -/
theorem xor_and_zero (a b p n : Nat) : (a ^^^ b) &&& ((2 ^ n - 1) * 2 ^ p) = 0 ↔ a / 2 ^ p % 2 ^ n = b / 2 ^ p % 2 ^ n := by
  constructor
  · intro h
    apply Nat.eq_of_testBit_eq
    intro i
    rw [Nat.testBit_mod_two_pow, Nat.testBit_mod_two_pow, Nat.testBit_div_two_pow, Nat.testBit_div_two_pow]
    by_cases hi : i < n
    · have := congrArg (fun x => Nat.testBit x (i + p)) h
      simp only [Nat.testBit_and, Nat.testBit_xor, Nat.testBit_mul_two_pow, Nat.testBit_two_pow_sub_one, Nat.zero_testBit] at this
      simp [hi] at this
      simp [hi, this]
    · simp [hi]
  · intro h
    apply Nat.eq_of_testBit_eq
    intro i
    have := congrArg (fun x => Nat.testBit x (i - p)) h
    simp only [Nat.testBit_mod_two_pow, Nat.testBit_div_two_pow] at this
    simp only [Nat.testBit_and, Nat.testBit_xor, Nat.testBit_mul_two_pow, Nat.testBit_two_pow_sub_one, Nat.zero_testBit]
    by_cases hp : p ≤ i
    · by_cases hi : i - p < n
      · have e : i - p + p = i := by omega
        simp only [hi, e, decide_true, Bool.true_and] at this
        simp [this]
      · simp [hi]
    · simp [hp]
theorem m_op (a b : Nat) (ha : a < 4294967296) (hb : b < 4294967296) : (a ^^^ b) &&& 4227858432 = 0 ↔ a / 67108864 = b / 67108864 := by
  have := xor_and_zero a b 26 6
  simp only [Nat.reducePow, Nat.reduceSub, Nat.reduceMul] at this
  rw [this]
  omega
theorem m_fn (a b : Nat) : (a ^^^ b) &&& 63 = 0 ↔ a % 64 = b % 64 := by
  have := xor_and_zero a b 0 6
  simp only [Nat.reducePow, Nat.reduceSub, Nat.reduceMul, Nat.div_one] at this
  exact this
theorem m_t (a b : Nat) : (a ^^^ b) &&& 2031616 = 0 ↔ a / 65536 % 32 = b / 65536 % 32 := by
  have := xor_and_zero a b 16 5
  simp only [Nat.reducePow, Nat.reduceSub, Nat.reduceMul] at this
  exact this
theorem m_s (a b : Nat) : (a ^^^ b) &&& 65011712 = 0 ↔ a / 2097152 % 32 = b / 2097152 % 32 := by
  have := xor_and_zero a b 21 5
  simp only [Nat.reducePow, Nat.reduceSub, Nat.reduceMul] at this
  exact this
theorem m_os (a b : Nat) (ha : a < 4294967296) (hb : b < 4294967296) : (a ^^^ b) &&& 4292870144 = 0 ↔ a / 2097152 = b / 2097152 := by
  have := xor_and_zero a b 21 11
  simp only [Nat.reducePow, Nat.reduceSub, Nat.reduceMul] at this
  rw [this]
  omega

theorem key_lt : ∀ k, k < 78 → key k < 4294967296 := by decide +kernel
theorem g_next : ∀ g, g < 8 → gF (g + 1) = gL g + 1 ∧ gF g ≤ gL g ∧ 1 ≤ gF g ∧ gL g ≤ 77 := by decide +kernel
/-- the keys of each group's kinds -/
theorem k0 : ∀ k, k < 78 → 1 ≤ k → k ≤ 35 → key k / 67108864 = 0 ∧ key k % 64 = sb k ∧ op k = 0 := by decide +kernel
theorem k1 : ∀ k, k < 78 → 36 ≤ k → k ≤ 39 → key k / 67108864 = 1 ∧ key k / 65536 % 32 = sb k ∧ op k = 1 := by decide +kernel
theorem k2a : ∀ k, k < 78 → 40 ≤ k → k ≤ 53 → key k / 67108864 = op k ∧ sb k = 0 := by decide +kernel
theorem k2b : ∀ k, k < 78 → 40 ≤ k → k ≤ 53 → (op k != 0 && op k != 28 && op k != 1 && op k != 16) = true := by decide +kernel
theorem k2 (k : Nat) (h : k < 78) (h1 : 40 ≤ k) (h2 : k ≤ 53) : key k / 67108864 = op k ∧ sb k = 0 ∧ op k ≠ 0 ∧ op k ≠ 28 ∧ op k ≠ 1 ∧ op k ≠ 16 := by
  have := k2b k h h1 h2
  simp at this
  obtain ⟨⟨⟨a, b⟩, c⟩, d⟩ := this
  exact ⟨(k2a k h h1 h2).1, (k2a k h h1 h2).2, a, b, c, d⟩
theorem k3 : ∀ k, k < 78 → 54 ≤ k → k ≤ 55 → key k / 67108864 = 16 ∧ key k / 2097152 % 32 = sb k ∧ op k = 16 ∧ sb k < 16 := by decide +kernel
theorem k4 : ∀ k, k < 78 → 56 ≤ k → k ≤ 61 → key k / 2097152 = 528 ∧ key k % 64 + 64 = sb k ∧ op k = 16 := by decide +kernel
theorem k5a : ∀ k, k < 78 → 62 ≤ k → k ≤ 62 → key k / 67108864 = op k ∧ sb k = 0 := by decide +kernel
theorem k5b : ∀ k, k < 78 → 62 ≤ k → k ≤ 62 → (op k != 0 && op k != 28 && op k != 1 && op k != 16) = true := by decide +kernel
theorem k5 (k : Nat) (h : k < 78) (h1 : 62 ≤ k) (h2 : k ≤ 62) : key k / 67108864 = op k ∧ sb k = 0 ∧ op k ≠ 0 ∧ op k ≠ 28 ∧ op k ≠ 1 ∧ op k ≠ 16 := by
  have := k5b k h h1 h2
  simp at this
  obtain ⟨⟨⟨a, b⟩, c⟩, d⟩ := this
  exact ⟨(k5a k h h1 h2).1, (k5a k h h1 h2).2, a, b, c, d⟩
theorem k6 : ∀ k, k < 78 → 63 ≤ k → k ≤ 65 → key k / 67108864 = 28 ∧ key k % 64 = sb k ∧ op k = 28 := by decide +kernel
theorem k7a : ∀ k, k < 78 → 66 ≤ k → k ≤ 77 → key k / 67108864 = op k ∧ sb k = 0 := by decide +kernel
theorem k7b : ∀ k, k < 78 → 66 ≤ k → k ≤ 77 → (op k != 0 && op k != 28 && op k != 1 && op k != 16) = true := by decide +kernel
theorem k7 (k : Nat) (h : k < 78) (h1 : 66 ≤ k) (h2 : k ≤ 77) : key k / 67108864 = op k ∧ sb k = 0 ∧ op k ≠ 0 ∧ op k ≠ 28 ∧ op k ≠ 1 ∧ op k ≠ 16 := by
  have := k7b k h h1 h2
  simp at this
  obtain ⟨⟨⟨a, b⟩, c⟩, d⟩ := this
  exact ⟨(k7a k h h1 h2).1, (k7a k h h1 h2).2, a, b, c, d⟩

/-- the word's asked bits are the kind's -/
theorem hit_iff {w g k : Nat} (hw : w < 4294967296) (hg : g < 8) (h1 : gF g ≤ k) (h2 : k ≤ gL g) : ((w ^^^ key k) &&& gS g = 0 ∧ (w ^^^ key k) &&& gA g = 0) ↔ (op k = w / 67108864 ∧ sb k = subW w) := by
  have hk : key k < 4294967296 := key_lt k (by have := g_next g hg; omega)
  have hc : g = 0 ∨ g = 1 ∨ g = 2 ∨ g = 3 ∨ g = 4 ∨ g = 5 ∨ g = 6 ∨ g = 7 := by omega
  unfold subW
  rcases hc with rfl | rfl | rfl | rfl | rfl | rfl | rfl | rfl
  · have a1 : 1 ≤ k := h1
    have a2 : k ≤ 35 := h2
    obtain ⟨e1, e2, e3⟩ := k0 k (by omega) a1 a2
    show (_ &&& 4227858432 = 0 ∧ _ &&& 63 = 0) ↔ _
    rw [m_op _ _ hw hk, m_fn, e1, e2, e3]
    split <;> (try split) <;> omega
  · have a1 : 36 ≤ k := h1
    have a2 : k ≤ 39 := h2
    obtain ⟨e1, e2, e3⟩ := k1 k (by omega) a1 a2
    show (_ &&& 4227858432 = 0 ∧ _ &&& 2031616 = 0) ↔ _
    rw [m_op _ _ hw hk, m_t, e1, e2, e3]
    split <;> (try split) <;> omega
  · have a1 : 40 ≤ k := h1
    have a2 : k ≤ 53 := h2
    obtain ⟨e1, e2, e3, e4, e5, e6⟩ := k2 k (by omega) a1 a2
    show (_ &&& 0 = 0 ∧ _ &&& 4227858432 = 0) ↔ _
    rw [m_op _ _ hw hk, e1, e2, Nat.and_zero]
    split <;> (try split) <;> (try split) <;> omega
  · have a1 : 54 ≤ k := h1
    have a2 : k ≤ 55 := h2
    obtain ⟨e1, e2, e3, e4⟩ := k3 k (by omega) a1 a2
    show (_ &&& 4227858432 = 0 ∧ _ &&& 65011712 = 0) ↔ _
    rw [m_op _ _ hw hk, m_s, e1, e2, e3]
    split <;> (try split) <;> (try split) <;> (try split) <;> omega
  · have a1 : 56 ≤ k := h1
    have a2 : k ≤ 61 := h2
    obtain ⟨e1, e2, e3⟩ := k4 k (by omega) a1 a2
    show (_ &&& 4292870144 = 0 ∧ _ &&& 63 = 0) ↔ _
    rw [m_os _ _ hw hk, m_fn, e1, e3]
    split <;> (try split) <;> (try split) <;> (try split) <;> omega
  · have a1 : 62 ≤ k := h1
    have a2 : k ≤ 62 := h2
    obtain ⟨e1, e2, e3, e4, e5, e6⟩ := k5 k (by omega) a1 a2
    show (_ &&& 0 = 0 ∧ _ &&& 4227858432 = 0) ↔ _
    rw [m_op _ _ hw hk, e1, e2, Nat.and_zero]
    split <;> (try split) <;> (try split) <;> omega
  · have a1 : 63 ≤ k := h1
    have a2 : k ≤ 65 := h2
    obtain ⟨e1, e2, e3⟩ := k6 k (by omega) a1 a2
    show (_ &&& 4227858432 = 0 ∧ _ &&& 63 = 0) ↔ _
    rw [m_op _ _ hw hk, m_fn, e1, e2, e3]
    split <;> (try split) <;> omega
  · have a1 : 66 ≤ k := h1
    have a2 : k ≤ 77 := h2
    obtain ⟨e1, e2, e3, e4, e5, e6⟩ := k7 k (by omega) a1 a2
    show (_ &&& 0 = 0 ∧ _ &&& 4227858432 = 0) ↔ _
    rw [m_op _ _ hw hk, e1, e2, Nat.and_zero]
    split <;> (try split) <;> (try split) <;> omega
/-- what is shared in a group is the same in all of its kinds -/
theorem shared_same {w g k j : Nat} (hw : w < 4294967296) (hg : g < 8) (h1 : gF g ≤ k) (h2 : k ≤ gL g) (j1 : gF g ≤ j) (j2 : j ≤ gL g) : ((w ^^^ key k) &&& gS g = 0) ↔ ((w ^^^ key j) &&& gS g = 0) := by
  have hk : key k < 4294967296 := key_lt k (by have := g_next g hg; omega)
  have hj : key j < 4294967296 := key_lt j (by have := g_next g hg; omega)
  have hc : g = 0 ∨ g = 1 ∨ g = 2 ∨ g = 3 ∨ g = 4 ∨ g = 5 ∨ g = 6 ∨ g = 7 := by omega
  rcases hc with rfl | rfl | rfl | rfl | rfl | rfl | rfl | rfl
  · have := k0 k (by have : k ≤ 35 := h2; omega) h1 h2
    have := k0 j (by have : j ≤ 35 := j2; omega) j1 j2
    show (_ &&& 4227858432 = 0) ↔ (_ &&& 4227858432 = 0)
    rw [m_op _ _ hw hk, m_op _ _ hw hj]; omega
  · have := k1 k (by have : k ≤ 39 := h2; omega) h1 h2
    have := k1 j (by have : j ≤ 39 := j2; omega) j1 j2
    show (_ &&& 4227858432 = 0) ↔ (_ &&& 4227858432 = 0)
    rw [m_op _ _ hw hk, m_op _ _ hw hj]; omega
  · show (_ &&& 0 = 0) ↔ (_ &&& 0 = 0)
    simp
  · have := k3 k (by have : k ≤ 55 := h2; omega) h1 h2
    have := k3 j (by have : j ≤ 55 := j2; omega) j1 j2
    show (_ &&& 4227858432 = 0) ↔ (_ &&& 4227858432 = 0)
    rw [m_op _ _ hw hk, m_op _ _ hw hj]; omega
  · have := k4 k (by have : k ≤ 61 := h2; omega) h1 h2
    have := k4 j (by have : j ≤ 61 := j2; omega) j1 j2
    show (_ &&& 4292870144 = 0) ↔ (_ &&& 4292870144 = 0)
    rw [m_os _ _ hw hk, m_os _ _ hw hj]; omega
  · show (_ &&& 0 = 0) ↔ (_ &&& 0 = 0)
    simp
  · have := k6 k (by have : k ≤ 65 := h2; omega) h1 h2
    have := k6 j (by have : j ≤ 65 := j2; omega) j1 j2
    show (_ &&& 4227858432 = 0) ↔ (_ &&& 4227858432 = 0)
    rw [m_op _ _ hw hk, m_op _ _ hw hj]; omega
  · show (_ &&& 0 = 0) ↔ (_ &&& 0 = 0)
    simp

section
variable {w g c : Nat} (hw : w < 4294967296) (hg : g < 8) (h1 : gF g ≤ c) (h2 : c ≤ gL g)
include hw hg h1 h2
theorem skip (hs : (w ^^^ key c) &&& gS g ≠ 0) (hk : kW w = 0 ∨ c ≤ kW w) : kW w = 0 ∨ gF (g + 1) ≤ kW w := by
  have hn := g_next g hg
  rcases hk with hk | hk
  · exact .inl hk
  · refine .inr ?_
    by_cases hl : kW w ≤ gL g
    · have hp := kOS_pos (o := w / 67108864) (s := subW w) (show 1 ≤ kW w by omega)
      have := (hit_iff (k := kW w) hw hg (by omega) hl).2 hp
      exact absurd ((shared_same hw hg h1 h2 (by omega) hl).2 this.1) hs
    · omega
theorem found (hs : (w ^^^ key c) &&& gS g = 0) (ha : (w ^^^ key c) &&& gA g = 0) : kW w = c := by
  have hn := g_next g hg
  obtain ⟨e1, e2⟩ := (hit_iff hw hg h1 h2).1 ⟨hs, ha⟩
  exact kOS_of (by omega) (by omega) e1 e2
theorem onward (ha : (w ^^^ key c) &&& gA g ≠ 0) (hk : kW w = 0 ∨ c ≤ kW w) : kW w = 0 ∨ c + 1 ≤ kW w := by
  have hn := g_next g hg
  rcases hk with hk | hk
  · exact .inl hk
  · by_cases he : kW w = c
    · have hp := kOS_pos (o := w / 67108864) (s := subW w) (show 1 ≤ kW w by omega)
      have hp2 : op c = w / 67108864 ∧ sb c = subW w := by rw [← he]; exact hp
      exact absurd ((hit_iff hw hg h1 h2).2 hp2).2 ha
    · exact .inr (by omega)
end
end D
end Go.Proofs.Ytmjlbffphaklgaa
