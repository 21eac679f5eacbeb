/-
  Chapter 3: functions Of, Right, Word of package decode.
-/
import Derived.Test.YtngfjjgejpkmmaaDoorDec
import Derived.Test.YtngfjjgejpkmmaaDoorMath
import Derived.OpenShut
namespace Go.Proofs.YtngfjjgejpkmmaaDoor
open Go.RowKit
set_option linter.unusedVariables false

theorem and_m {x m : Nat} (hx : x < 4294967296) (hm : m = 0 ∨ m = 31) : bits .and .i64 (x : Int) (m : Int) = ((x % (m + 1) : Nat) : Int) := by
  have e : (BitVec.ofInt 64 (x : Int) &&& BitVec.ofInt 64 (m : Int)).toNat = x % (m + 1) := by
    rw [BitVec.toNat_and]
    have hx' : (BitVec.ofInt 64 (x : Int)).toNat = x := by rw [BitVec.toNat_ofInt]; omega
    have hm' : (BitVec.ofInt 64 (m : Int)).toNat = m := by rw [BitVec.toNat_ofInt]; omega
    rw [hx', hm']
    rcases hm with rfl | rfl
    · simp [Nat.mod_one]
    · exact Nat.and_two_pow_sub_one_eq_mod x 5
  show IntKind.i64.wrap ((BitVec.ofInt 64 (x : Int) &&& BitVec.ofInt 64 (m : Int)).toNat : Int) = _
  rw [e, IntKind.wrap_i64]
  rcases hm with rfl | rfl <;> omega
theorem and_i {x m : Nat} (hx : x < 4294967296) (hm : m = 0 ∨ m = 65535 ∨ m = 67108863) : bits .and .u32 (x : Int) (m : Int) = ((x % (m + 1) : Nat) : Int) := by
  rw [u32_and_nat _ _ hx (by omega)]
  rcases hm with rfl | rfl | rfl
  · simp [Nat.mod_one]
  · rw [show (65535 : Nat) = 2 ^ 16 - 1 from rfl, Nat.and_two_pow_sub_one_eq_mod]
  · rw [show (67108863 : Nat) = 2 ^ 26 - 1 from rfl, Nat.and_two_pow_sub_one_eq_mod]

theorem below_new {w : World} {o : Obj} {B : Nat} (hB : B ≤ w.heap.size := by exact Nat.le_refl _) : Below B w (w.alloc o) := (Below.refl _ _).alloc hB _
theorem bel_set {B : Nat} {a w : World} {p : Addr} {u : Value} (hp : B ≤ p.block) (h : Below B a w) : Below B a (w.setCell p u) := h.setCell hp u
theorem bel_alloc {B : Nat} {a w : World} {o : Obj} (hB : B ≤ w.heap.size) (h : Below B a w) : Below B a (w.alloc o) := h.alloc hB o
theorem bcell {W w1 : World} (hb : Below W.heap.size W w1) : (∀ b o, b < W.heap.size → w1.cell? ⟨b, o, none⟩ = W.cell? ⟨b, o, none⟩) ∧ (∀ b o, b < W.heap.size → w1.frozen? ⟨b, o, none⟩ = W.frozen? ⟨b, o, none⟩) :=
  ⟨fun b o h => hb.cell (p := ⟨b, o, none⟩) h, fun b o h => hb.frozen (p := ⟨b, o, none⟩) h⟩

set_option maxHeartbeats 1000000 in
theorem of_any (W : Nat) (w : World) {gb go cap : Nat} (h : Hid (Laid w gb go cap)) (hW : W < 4294967296) : Calls Tryd.prog 13 #[.int .u32 (W : Int)] w fun e w' => e = .returned (.agg #[.int .i64 (D.kW W), .int .i64 (D.fS W), .int .i64 (D.fT W), .int .i64 (D.fD W), .int .i64 (D.fH W), .int .u32 (D.fI W)]) ∧ Below w.heap.size w w' := by
  have hk := D.kW_le W
  have hb1 : Below w.heap.size w (w.alloc (.cells #[.int .i64 0, .int .i64 0, .int .i64 0, .int .i64 0, .int .i64 0, .int .u32 0] 27)) := below_new
  have HM := Lib.hid (⟨D.ms _ (Nat.lt_succ_of_le hk), D.mt _ (Nat.lt_succ_of_le hk), D.md _ (Nat.lt_succ_of_le hk), D.mh _ (Nat.lt_succ_of_le hk), D.mi _ (Nat.lt_succ_of_le hk)⟩ : _ ∧ _ ∧ _ ∧ _ ∧ _)
  go_enter Tryd.func13, Tryd.ntmps13
  go_wp2_with fail
  refine (kind_any W _ (Lib.hid (h.out.below hb1)) hW).mono ?_
  rintro e w1 ⟨rfl, hb2⟩
  go_wp2_with fail
  refine (gre_any _ hk _).mono ?_
  rintro e w2 ⟨rfl, hb3⟩
  have hb4 := band hb2 hb3
  obtain ⟨hc, hf⟩ := bcell hb4
  have hz : w.heap.size < w2.heap.size := by have := hb4.size; simp at this; omega
  go_wp2
  refine bodyPost_ret (v := .agg #[.int .i64 (D.kW W), .int .i64 (bits .and .i64 ((W : Int) / 2097152) (D.mS (D.kW W) : Int)), .int .i64 (bits .and .i64 ((W : Int) / 65536) (D.mT (D.kW W) : Int)), .int .i64 (bits .and .i64 ((W : Int) / 2048) (D.mD (D.kW W) : Int)), .int .i64 (bits .and .i64 ((W : Int) / 64) (D.mH (D.kW W) : Int)), .int .u32 (bits .and .u32 (W : Int) (D.mI (D.kW W) : Int))]) (by simp [results, Tryd.results13, go_sem, hc, hz]) rfl ⟨?_, ?_⟩
  · obtain ⟨m1, m2, m3, m4, m5⟩ := HM.out
    have e1 : ((W : Int) / 2097152) = ((W / 2097152 : Nat) : Int) := by omega
    have e2 : ((W : Int) / 65536) = ((W / 65536 : Nat) : Int) := by omega
    have e3 : ((W : Int) / 2048) = ((W / 2048 : Nat) : Int) := by omega
    have e4 : ((W : Int) / 64) = ((W / 64 : Nat) : Int) := by omega
    rw [e1, e2, e3, e4, and_m (by omega) m1, and_m (by omega) m2, and_m (by omega) m3, and_m (by omega) m4, and_i hW m5]
    rfl
  · have hb5 := band hb1 hb4
    have hz5 := hb5.size
    (repeat' (first | (with_reducible exact hb5) | (with_reducible apply bel_set) | (with_reducible apply bel_alloc) | (simp [World.setCell]; done) | (simp [World.setCell]; omega) | omega))

/-! Right -/
theorem or_zero (a b : Int) (a0 : -9223372036854775808 ≤ a) (a1 : a ≤ 9223372036854775807) (b0 : -9223372036854775808 ≤ b) (b1 : b ≤ 9223372036854775807) : bits .or .i64 a b = 0 ↔ a = 0 ∧ b = 0 := by
  have hz : ∀ x : Int, -9223372036854775808 ≤ x → x ≤ 9223372036854775807 → (BitVec.ofInt 64 x = 0#64 ↔ x = 0) := fun x h0 h1 => by
    constructor
    · intro h
      have := congrArg BitVec.toNat h
      rw [BitVec.toNat_ofInt] at this
      simp at this
      omega
    · rintro rfl; rfl
  have e : bits .or .i64 a b = IntKind.i64.wrap ((BitVec.ofInt 64 a ||| BitVec.ofInt 64 b).toNat : Int) := rfl
  rw [e, IntKind.wrap_i64]
  have hl := (BitVec.ofInt 64 a ||| BitVec.ofInt 64 b).isLt
  rw [← hz a a0 a1, ← hz b b0 b1, ← BitVec.or_eq_zero_iff]
  constructor
  · intro h
    apply BitVec.eq_of_toNat_eq
    simp only [BitVec.toNat_ofNat]
    omega
  · intro h
    rw [h]
    simp
theorem rng_u32 {a : Int} (h : (Lit.int .u32 a).wf = true) : 0 ≤ a ∧ a < 4294967296 := by
  have := bounds_u32 h; omega
theorem rng_i64 {a : Int} (h : (Lit.int .i64 a).wf = true) : -9223372036854775808 ≤ a ∧ a ≤ 9223372036854775807 := by
  have := bounds_i64 h; omega
theorem bits_rng (o : BinOp) (a b : Int) : -9223372036854775808 ≤ bits o .i64 a b ∧ bits o .i64 a b ≤ 9223372036854775807 := by
  have := wf_bits o .i64 a b
  exact rng_i64 this
theorem and_not (s : Int) (m : Nat) (hm : m = 0 ∨ m = 31) (s0 : -9223372036854775808 ≤ s) (s1 : s ≤ 9223372036854775807) : bits .andNot .i64 s (m : Int) = 0 ↔ 0 ≤ s ∧ s ≤ m := by
  have e : bits .andNot .i64 s (m : Int) = IntKind.i64.wrap ((BitVec.ofInt 64 s &&& ~~~BitVec.ofInt 64 (m : Int)).toNat : Int) := rfl
  rw [e, IntKind.wrap_i64, BitVec.toNat_and, BitVec.toNat_not, BitVec.toNat_ofInt, BitVec.toNat_ofInt]
  rcases hm with rfl | rfl
  · have e2 : (2 : Nat) ^ 64 - 1 - (((0 : Nat) : Int) % ((2 ^ 64 : Nat) : Int)).toNat = 2 ^ 64 - 1 := by decide
    rw [e2, Nat.and_two_pow_sub_one_eq_mod]
    omega
  · have e2 : (2 : Nat) ^ 64 - 1 - (((31 : Nat) : Int) % ((2 ^ 64 : Nat) : Int)).toNat = 18446744073709551584 := by decide
    rw [e2, nat_hi64_5]
    omega
theorem not_i (i : Int) (m : Nat) (hm : m = 0 ∨ m = 65535 ∨ m = 67108863) (i0 : 0 ≤ i) (i1 : i < 4294967296) : bits .andNot .u32 i (m : Int) = 0 ↔ i ≤ m := by
  obtain ⟨I, rfl⟩ := Int.eq_ofNat_of_zero_le i0
  rw [u32_andNot_nat _ _ (by omega) (by omega)]
  have hp : ∀ p, p ≤ 32 → (I &&& (2 ^ (32 - p) - 1) * 2 ^ p) = I % 4294967296 / 2 ^ p * 2 ^ p := fun p hp => by
    apply Nat.eq_of_testBit_eq
    intro j
    rw [show (4294967296 : Nat) = 2 ^ 32 from rfl]
    simp only [Nat.testBit_and, Nat.testBit_mul_two_pow, Nat.testBit_two_pow_sub_one, Nat.testBit_div_two_pow, Nat.testBit_mod_two_pow]
    by_cases h1 : p ≤ j
    · rw [show j - p + p = j by omega]
      by_cases h2 : j < 32
      · simp [h1, h2, show j - p < 32 - p by omega]
      · simp [h1, h2, show ¬ j - p < 32 - p by omega]
    · simp [h1]
  rcases hm with rfl | rfl | rfl
  · have := hp 0 (by omega)
    rw [show (2 ^ (32 - 0) - 1) * 2 ^ 0 = 4294967295 - 0 from rfl] at this
    rw [this]
    omega
  · have := hp 16 (by omega)
    rw [show (2 ^ (32 - 16) - 1) * 2 ^ 16 = 4294967295 - 65535 from rfl] at this
    rw [this]
    omega
  · have := hp 26 (by omega)
    rw [show (2 ^ (32 - 26) - 1) * 2 ^ 26 = 4294967295 - 67108863 from rfl] at this
    rw [this]
    omega

/-- numbers of 64 bits -/
def In64 (x : Int) : Prop := -9223372036854775808 ≤ x ∧ x ≤ 9223372036854775807
/-- the numbers of an instruction, as they may be -/
structure InR (k s t d h i : Int) : Prop where
  k : In64 k
  s : In64 s
  t : In64 t
  d : In64 d
  h : In64 h
  i0 : 0 ≤ i
  i1 : i < 4294967296
def beside (k : Nat) (s t d h : Int) : Int := bits .or .i64 (bits .or .i64 (bits .or .i64 (bits .andNot .i64 s (D.mS k : Int)) (bits .andNot .i64 t (D.mT k : Int))) (bits .andNot .i64 d (D.mD k : Int))) (bits .andNot .i64 h (D.mH k : Int))
theorem beside_iff {k : Nat} {s t d h : Int} (hk : k < 78) (hs : In64 s) (ht : In64 t) (hd : In64 d) (hh : In64 h) : beside k s t d h = 0 ↔ (0 ≤ s ∧ s ≤ D.mS k) ∧ (0 ≤ t ∧ t ≤ D.mT k) ∧ (0 ≤ d ∧ d ≤ D.mD k) ∧ (0 ≤ h ∧ h ≤ D.mH k) := by
  unfold beside
  rw [or_zero _ _ (bits_rng ..).1 (bits_rng ..).2 (bits_rng ..).1 (bits_rng ..).2, or_zero _ _ (bits_rng ..).1 (bits_rng ..).2 (bits_rng ..).1 (bits_rng ..).2, or_zero _ _ (bits_rng ..).1 (bits_rng ..).2 (bits_rng ..).1 (bits_rng ..).2,
    and_not _ _ (D.ms k hk) hs.1 hs.2, and_not _ _ (D.mt k hk) ht.1 ht.2, and_not _ _ (D.md k hk) hd.1 hd.2, and_not _ _ (D.mh k hk) hh.1 hh.2]
  simp only [and_assoc]

set_option maxHeartbeats 1000000 in
theorem right_any (k s t d h i : Int) (w : World) (hr : Hid (InR k s t d h i)) : Calls Tryd.prog 14 #[.agg #[.int .i64 k, .int .i64 s, .int .i64 t, .int .i64 d, .int .i64 h, .int .u32 i]] w fun e w' => e = .returned (.bool (D.rg k s t d h i)) ∧ Below w.heap.size w w' := by
  cases hk : isK k
  · have HR := Lib.hid (show D.rg k s t d h i = false by have := hk; simp only [isK, decide_eq_false_iff_not] at this; simp only [D.rg, decide_eq_false_iff_not]; omega)
    go_enter Tryd.func14, Tryd.ntmps14
    go_wp2_with fail
    refine (isk_any k _).mono ?_
    rintro e w1 ⟨rfl, rfl⟩
    rw [hk]
    go_wp2
    go_ret
    exact ⟨ret_bool HR.out.symm, below_new⟩
  · have hK : 1 ≤ k ∧ k ≤ 77 := by simp only [isK, decide_eq_true_eq] at hk; omega
    obtain ⟨K, rfl⟩ := Int.eq_ofNat_of_zero_le (show 0 ≤ k by omega)
    have hK1 : 1 ≤ K := by omega
    have hK2 : K ≤ 77 := by omega
    have hbi := Lib.hid (beside_iff (k := K) (by omega) hr.out.s hr.out.t hr.out.d hr.out.h)
    have hni := Lib.hid (not_i i _ (D.mi K (by omega)) hr.out.i0 hr.out.i1)
    have HR := Lib.hid (show D.rg K s t d h i = (decide (beside K s t d h = 0) && decide (bits .andNot .u32 i (D.mI K : Int) = 0)) by
      rw [Bool.eq_iff_iff]
      simp only [D.rg, decide_eq_true_eq, Bool.and_eq_true, hbi.out, hni.out, Int.toNat_natCast]
      have := hr.out.i0
      omega)
    clear hbi hni hK
    by_cases hbz : beside K s t d h = 0
    · have H0 := Lib.hid hbz
      have hb' : (bits .or .i64 (bits .or .i64 (bits .or .i64 (bits .andNot .i64 s (D.mS K : Int)) (bits .andNot .i64 t (D.mT K : Int))) (bits .andNot .i64 d (D.mD K : Int))) (bits .andNot .i64 h (D.mH K : Int)) == 0) = true := by simpa [beside] using hbz
      clear hbz
      go_enter Tryd.func14, Tryd.ntmps14
      go_wp2_with fail
      refine (isk_any _ _).mono ?_
      rintro e w1 ⟨rfl, rfl⟩
      rw [hk]
      go_wp2_with fail
      refine (gre_any _ hK2 _).mono ?_
      rintro e w2 ⟨rfl, hb2⟩
      obtain ⟨hc, hf⟩ := bcell hb2
      have hz : w.heap.size < w2.heap.size := by have := hb2.size; simp at this; omega
      go_wp2
      go_ret
      have hb5 := band (below_new (w := w)) hb2
      have hz5 := hb5.size
      exact ⟨ret_bool (by rw [HR.out, decide_eq_true H0.out, Bool.true_and, Bool.eq_iff_iff]; simp), by (repeat' (first | (with_reducible exact hb5) | (with_reducible apply bel_set) | (with_reducible apply bel_alloc) | (simp [World.setCell]; done) | (simp [World.setCell]; omega) | omega))⟩
    · have H0 := Lib.hid hbz
      have hb' : (bits .or .i64 (bits .or .i64 (bits .or .i64 (bits .andNot .i64 s (D.mS K : Int)) (bits .andNot .i64 t (D.mT K : Int))) (bits .andNot .i64 d (D.mD K : Int))) (bits .andNot .i64 h (D.mH K : Int)) == 0) = false := by simpa [beside] using hbz
      clear hbz
      go_enter Tryd.func14, Tryd.ntmps14
      go_wp2_with fail
      refine (isk_any _ _).mono ?_
      rintro e w1 ⟨rfl, rfl⟩
      rw [hk]
      go_wp2_with fail
      refine (gre_any _ hK2 _).mono ?_
      rintro e w2 ⟨rfl, hb2⟩
      obtain ⟨hc, hf⟩ := bcell hb2
      have hz : w.heap.size < w2.heap.size := by have := hb2.size; simp at this; omega
      go_wp2
      go_ret
      have hb5 := band (below_new (w := w)) hb2
      have hz5 := hb5.size
      exact ⟨ret_bool (by rw [HR.out, decide_eq_false H0.out]; rfl), by (repeat' (first | (with_reducible exact hb5) | (with_reducible apply bel_set) | (with_reducible apply bel_alloc) | (simp [World.setCell]; done) | (simp [World.setCell]; omega) | omega))⟩

set_option maxHeartbeats 1000000 in
theorem word_no (k s t d h i : Int) (w : World) (hr : Hid (InR k s t d h i)) (HN : Hid (D.rg k s t d h i = false)) : Calls Tryd.prog 12 #[.agg #[.int .i64 k, .int .i64 s, .int .i64 t, .int .i64 d, .int .i64 h, .int .u32 i]] w fun e w' => e = .returned (.tuple #[.int .u32 0, .bool false]) ∧ Below w.heap.size w w' := by
  go_enter Tryd.func12, Tryd.ntmps12
  go_wp2_with fail
  refine (right_any _ _ _ _ _ _ _ hr).mono ?_
  rintro e w1 ⟨rfl, hb1⟩
  rw [HN.out]
  go_wp2
  go_ret2
  exact ⟨rfl, band below_new hb1⟩
theorem rg_nat {k s t d h i : Nat} (h1 : 1 ≤ k) (h2 : k ≤ 77) (hs : s ≤ D.mS k) (ht : t ≤ D.mT k) (hd : d ≤ D.mD k) (hh : h ≤ D.mH k) (hi : i ≤ D.mI k) : D.rg k s t d h i = true := by
  simp only [D.rg, decide_eq_true_eq, Int.toNat_natCast]
  omega
theorem inr_nat {k s t d h i : Nat} (h2 : k ≤ 77) (hs : s ≤ D.mS k) (ht : t ≤ D.mT k) (hd : d ≤ D.mD k) (hh : h ≤ D.mH k) (hi : i ≤ D.mI k) : InR k s t d h i := by
  have := D.ms k (by omega); have := D.mt k (by omega); have := D.md k (by omega); have := D.mh k (by omega); have := D.mi k (by omega)
  exact ⟨⟨by omega, by omega⟩, ⟨by omega, by omega⟩, ⟨by omega, by omega⟩, ⟨by omega, by omega⟩, ⟨by omega, by omega⟩, by omega, by omega⟩
theorem ret_w {a b : Int} {c : Bool} (h : a = b) : Ending.returned (.tuple #[.int .u32 a, .bool c]) = .returned (.tuple #[.int .u32 b, .bool c]) := by rw [h]
theorem lt32 {a b : Nat} (ha : a < 4294967296) (hb : b < 4294967296) : (a ||| b) < 4294967296 := Nat.or_lt_two_pow (n := 32) ha hb
theorem or4 (a b c x i : Nat) (l1 : a < 4294967296) (l2 : b < 4294967296) (l3 : c < 4294967296) (l4 : x < 4294967296) (l5 : i < 4294967296) :
    bits .or .u32 (bits .or .u32 (bits .or .u32 (bits .or .u32 (a : Int) (b : Int)) (c : Int)) (x : Int)) (i : Int) = ((a ||| b ||| c ||| x ||| i : Nat) : Int) ∧ (a ||| b ||| c ||| x ||| i) < 4294967296 := by
  have m1 : (a ||| b) < 4294967296 := lt32 l1 l2
  have m2 : (a ||| b ||| c) < 4294967296 := lt32 m1 l3
  have m3 : (a ||| b ||| c ||| x) < 4294967296 := lt32 m2 l4
  rw [u32_or_nat _ _ l1 l2, u32_or_nat _ _ m1 l3, u32_or_nat _ _ m2 l4, u32_or_nat _ _ m3 l5]
  exact ⟨rfl, lt32 m3 l5⟩
theorem or_low (s t d h i : Nat) (ls : s ≤ 31) (lt : t ≤ 31) (ld : d ≤ 31) (lh : h ≤ 31) (li : i ≤ 67108863) :
    bits .or .u32 (bits .or .u32 (bits .or .u32 (bits .or .u32 ((s : Int) * 2097152) ((t : Int) * 65536)) ((d : Int) * 2048)) ((h : Int) * 64)) (i : Int) = ((s * 2097152 ||| t * 65536 ||| d * 2048 ||| h * 64 ||| i : Nat) : Int) ∧ (s * 2097152 ||| t * 65536 ||| d * 2048 ||| h * 64 ||| i) < 4294967296 := by
  rw [show (s : Int) * 2097152 = ((s * 2097152 : Nat) : Int) by omega, show (t : Int) * 65536 = ((t * 65536 : Nat) : Int) by omega, show (d : Int) * 2048 = ((d * 2048 : Nat) : Int) by omega, show (h : Int) * 64 = ((h * 64 : Nat) : Int) by omega]
  exact or4 _ _ _ _ _ (by omega) (by omega) (by omega) (by omega) (by omega)
theorem or_fold (k s t d h i : Nat) (hk : k < 78) (ls : s ≤ 31) (lt : t ≤ 31) (ld : d ≤ 31) (lh : h ≤ 31) (li : i ≤ 67108863) :
    bits .or .u32 (D.key k : Int) (bits .or .u32 (bits .or .u32 (bits .or .u32 (bits .or .u32 ((s : Int) * 2097152) ((t : Int) * 65536)) ((d : Int) * 2048)) ((h : Int) * 64)) (i : Int)) = (D.wd k s t d h i : Int) := by
  obtain ⟨e, l⟩ := or_low s t d h i ls lt ld lh li
  rw [e, u32_or_nat _ _ (D.key_lt k hk) l]
  rfl
set_option maxHeartbeats 1000000 in
theorem word_yes (k s t d h i : Nat) (w : World) {gb go cap : Nat} (hL : Hid (Laid w gb go cap)) (h1 : 1 ≤ k) (h2 : k ≤ 77) (hs : s ≤ D.mS k) (ht : t ≤ D.mT k) (hd : d ≤ D.mD k) (hh : h ≤ D.mH k) (hi : i ≤ D.mI k) :
    Calls Tryd.prog 12 #[.agg #[.int .i64 ((k : Int)), .int .i64 ((s : Int)), .int .i64 ((t : Int)), .int .i64 ((d : Int)), .int .i64 ((h : Int)), .int .u32 ((i : Int))]] w fun e w' => e = .returned (.tuple #[.int .u32 (D.wd k s t d h i : Int), .bool true]) ∧ Below w.heap.size w w' := by
  have HR := Lib.hid (rg_nat h1 h2 hs ht hd hh hi)
  have HI := Lib.hid (inr_nat h2 hs ht hd hh hi)
  have HS := Lib.hid (D.ms k (by omega)); have HT := Lib.hid (D.mt k (by omega)); have HD := Lib.hid (D.md k (by omega)); have HH := Lib.hid (D.mh k (by omega)); have HM := Lib.hid (D.mi k (by omega))
  have ls : s ≤ 31 := by have := HS.out; omega
  have lt : t ≤ 31 := by have := HT.out; omega
  have ld : d ≤ 31 := by have := HD.out; omega
  have lh : h ≤ 31 := by have := HH.out; omega
  have li : i ≤ 67108863 := by have := HM.out; omega
  have hk0 := hL.out.key k (by omega)
  have hone := hL.out.one
  clear hs ht hd hh hi
  go_enter Tryd.func12, Tryd.ntmps12
  go_wp2_with fail
  refine (right_any _ _ _ _ _ _ _ HI).mono ?_
  rintro e w1 ⟨rfl, hb1⟩
  rw [HR.out]
  obtain ⟨hc, hf⟩ := bcell hb1
  have hz : w.heap.size < w1.heap.size := by have := hb1.size; simp at this; omega
  have z0 : 0 < w.heap.size := by omega
  go_wp2
  go_ret2
  exact ⟨ret_w (or_fold k s t d h i (by omega) ls lt ld lh li), band below_new hb1⟩
end Go.Proofs.YtngfjjgejpkmmaaDoor
