/-
  Chapter 3: the document's own answer: function Word.
-/
import Derived.Test.YtngfjjgejpkmmaaDoorRR
namespace Go.Proofs.YtngfjjgejpkmmaaDoor
open Go.RowKit
set_option linter.unusedVariables false

set_option maxHeartbeats 1000000 in
theorem rright_out (k s t d h i : Int) (w : World) (hN : Hid (isK k = false)) : Calls Tryd.prog 19 #[.agg #[.int .i64 k, .int .i64 s, .int .i64 t, .int .i64 d, .int .i64 h, .int .u32 i]] w fun e w' => e = .returned (.bool false) ∧ Below w.heap.size w w' := by
  go_enter Tryd.func19, Tryd.ntmps19
  go_wp2_with fail
  refine (find_no k _ hN).mono ?_
  rintro e w1 ⟨rfl, hb1⟩
  go_wp2
  go_ret
  have hb5 := band (below_new (w := w)) hb1
  have hz5 := hb5.size
  exact ⟨rfl, by (repeat' (first | (with_reducible exact hb5) | (with_reducible apply bel_set) | (with_reducible apply bel_alloc) | (simp [World.setCell]; done) | (simp [World.setCell]; omega) | omega))⟩
theorem rright_any (k s t d h i : Int) (w : World) (hr : Hid (InR k s t d h i)) : Calls Tryd.prog 19 #[.agg #[.int .i64 k, .int .i64 s, .int .i64 t, .int .i64 d, .int .i64 h, .int .u32 i]] w fun e w' => e = .returned (.bool (D.rg k s t d h i)) ∧ Below w.heap.size w w' := by
  cases hk : isK k
  · have e : D.rg k s t d h i = false := by simp only [isK, decide_eq_false_iff_not] at hk; simp only [D.rg, decide_eq_false_iff_not]; omega
    rw [e]
    exact rright_out k s t d h i w hk
  · have hK : 0 < k ∧ k < 78 := by simpa [isK] using hk
    obtain ⟨K, rfl⟩ := Int.eq_ofNat_of_zero_le (show 0 ≤ k by omega)
    exact rright_in K s t d h i w (by omega) (by omega) hr.out.i0 hr.out.i1
set_option maxHeartbeats 1000000 in
theorem rword_no (k s t d h i : Int) (w : World) (hr : Hid (InR k s t d h i)) (HN : Hid (D.rg k s t d h i = false)) : Calls Tryd.prog 18 #[.agg #[.int .i64 k, .int .i64 s, .int .i64 t, .int .i64 d, .int .i64 h, .int .u32 i]] w fun e w' => e = .returned (.tuple #[.int .u32 0, .bool false]) ∧ Below w.heap.size w w' := by
  go_enter Tryd.func18, Tryd.ntmps18
  go_wp2_with fail
  refine (rright_any _ _ _ _ _ _ _ hr).mono ?_
  rintro e w1 ⟨rfl, hb1⟩
  rw [HN.out]
  go_wp2
  go_ret2
  exact ⟨rfl, band below_new hb1⟩

/-! the word, by pieces -/
def op_is (k o : Nat) : Bool := D.op k == o
theorem or6 (O a b c x i : Nat) (l0 : O < 4294967296) (l1 : a < 4294967296) (l2 : b < 4294967296) (l3 : c < 4294967296) (l4 : x < 4294967296) (l5 : i < 4294967296) :
    bits .or .u32 (bits .or .u32 (bits .or .u32 (bits .or .u32 (bits .or .u32 (O : Int) (a : Int)) (b : Int)) (c : Int)) (x : Int)) (i : Int) = ((O ||| a ||| b ||| c ||| x ||| i : Nat) : Int) ∧ (O ||| a ||| b ||| c ||| x ||| i) < 4294967296 := by
  have m0 : (O ||| a) < 4294967296 := lt32 l0 l1
  have m1 : (O ||| a ||| b) < 4294967296 := lt32 m0 l2
  have m2 : (O ||| a ||| b ||| c) < 4294967296 := lt32 m1 l3
  have m3 : (O ||| a ||| b ||| c ||| x) < 4294967296 := lt32 m2 l4
  rw [u32_or_nat _ _ l0 l1, u32_or_nat _ _ m0 l2, u32_or_nat _ _ m1 l3, u32_or_nat _ _ m2 l4, u32_or_nat _ _ m3 l5]
  exact ⟨rfl, lt32 m3 l5⟩
section
variable (k s t d h i : Nat) (ls : s ≤ 31) (lt : t ≤ 31) (ld : d ≤ 31) (lh : h ≤ 31) (li : i ≤ 67108863)
include ls lt ld lh li
theorem fin0 (O : Nat) {O' : Int} (eO : O' = O) (lO : O < 4294967296) (hk : D.key k = O) :
    bits .or .u32 (bits .or .u32 (bits .or .u32 (bits .or .u32 (bits .or .u32 O' ((s : Int) * 2097152)) ((t : Int) * 65536)) ((d : Int) * 2048)) ((h : Int) * 64)) (i : Int) = (D.wd k s t d h i : Int) ∧ D.wd k s t d h i = O ||| s * 2097152 ||| t * 65536 ||| d * 2048 ||| h * 64 ||| i := by
  have hw : D.wd k s t d h i = O ||| s * 2097152 ||| t * 65536 ||| d * 2048 ||| h * 64 ||| i := by
    unfold D.wd; rw [hk]; ac_rfl
  rw [eO, show (s : Int) * 2097152 = ((s * 2097152 : Nat) : Int) by omega, show (t : Int) * 65536 = ((t * 65536 : Nat) : Int) by omega, show (d : Int) * 2048 = ((d * 2048 : Nat) : Int) by omega, show (h : Int) * 64 = ((h * 64 : Nat) : Int) by omega, hw]
  exact ⟨(or6 _ _ _ _ _ _ lO (by omega) (by omega) (by omega) (by omega) (by omega)).1, rfl⟩
theorem fin1 (O X : Nat) {O' X' : Int} (eO : O' = O) (eX : X' = X) (lO : O < 4294967296) (lX : X < 4294967296) (hk : D.key k = O ||| X) :
    bits .or .u32 (bits .or .u32 (bits .or .u32 (bits .or .u32 (bits .or .u32 (bits .or .u32 O' ((s : Int) * 2097152)) ((t : Int) * 65536)) ((d : Int) * 2048)) ((h : Int) * 64)) (i : Int)) X' = (D.wd k s t d h i : Int) := by
  have hw : D.wd k s t d h i = (O ||| s * 2097152 ||| t * 65536 ||| d * 2048 ||| h * 64 ||| i) ||| X := by
    unfold D.wd; rw [hk]; ac_rfl
  obtain ⟨e, l⟩ := or6 O (s * 2097152) (t * 65536) (d * 2048) (h * 64) i lO (by omega) (by omega) (by omega) (by omega) (by omega)
  rw [eO, eX, show (s : Int) * 2097152 = ((s * 2097152 : Nat) : Int) by clear e l; omega, show (t : Int) * 65536 = ((t * 65536 : Nat) : Int) by clear e l; omega, show (d : Int) * 2048 = ((d * 2048 : Nat) : Int) by clear e l; omega, show (h : Int) * 64 = ((h * 64 : Nat) : Int) by clear e l; omega, e, hw, u32_or_nat _ _ l lX]
theorem fin2 (O Y X : Nat) {O' Y' X' : Int} (eO : O' = O) (eY : Y' = Y) (eX : X' = X) (lO : O < 4294967296) (lY : Y < 4294967296) (lX : X < 4294967296) (hk : D.key k = O ||| Y ||| X) :
    bits .or .u32 (bits .or .u32 (bits .or .u32 (bits .or .u32 (bits .or .u32 (bits .or .u32 (bits .or .u32 O' ((s : Int) * 2097152)) ((t : Int) * 65536)) ((d : Int) * 2048)) ((h : Int) * 64)) (i : Int)) Y') X' = (D.wd k s t d h i : Int) := by
  have hw : D.wd k s t d h i = (O ||| s * 2097152 ||| t * 65536 ||| d * 2048 ||| h * 64 ||| i) ||| Y ||| X := by
    unfold D.wd; rw [hk]; ac_rfl
  obtain ⟨e, l⟩ := or6 O (s * 2097152) (t * 65536) (d * 2048) (h * 64) i lO (by omega) (by omega) (by omega) (by omega) (by omega)
  rw [eO, eY, eX, show (s : Int) * 2097152 = ((s * 2097152 : Nat) : Int) by clear e l; omega, show (t : Int) * 65536 = ((t * 65536 : Nat) : Int) by clear e l; omega, show (d : Int) * 2048 = ((d * 2048 : Nat) : Int) by clear e l; omega, show (h : Int) * 64 = ((h * 64 : Nat) : Int) by clear e l; omega, e, hw, u32_or_nat _ _ l lY, u32_or_nat _ _ (lt32 l lY) lX]
end
theorem ky_a : ∀ k, k < 78 → 1 ≤ k → (op_is k 0 || op_is k 28) = true → D.key k = D.op k * 67108864 ||| D.sb k := by decide +kernel
theorem ky_1 : ∀ k, k < 78 → 1 ≤ k → op_is k 1 = true → D.key k = 67108864 ||| D.sb k * 65536 := by decide +kernel
theorem ky_c : ∀ k, k < 78 → 1 ≤ k → (op_is k 16 && decide (64 ≤ D.sb k)) = true → D.key k = 1073741824 ||| 33554432 ||| (D.sb k - 64) := by decide +kernel
theorem ky_m : ∀ k, k < 78 → 1 ≤ k → (op_is k 16 && decide (D.sb k < 32)) = true → D.key k = 1073741824 ||| D.sb k * 2097152 := by decide +kernel
theorem ky_o : ∀ k, k < 78 → 1 ≤ k → (op_is k 0 || op_is k 28 || op_is k 1 || op_is k 16) = false → D.key k = D.op k * 67108864 := by decide +kernel
theorem sb_lt : ∀ k, k < 78 → D.sb k < 128 := by decide +kernel
theorem sb_16 : ∀ k, k < 78 → op_is k 16 = true → (decide (64 ≤ D.sb k) || decide (D.sb k < 32)) = true := by decide +kernel

set_option maxRecDepth 100000 in
set_option maxHeartbeats 4000000 in
theorem rword_at (o u : Int) (k s t d h i : Nat) (w : World) (h1 : 1 ≤ k) (h2 : k ≤ 77) (hs : s ≤ D.mS k) (ht : t ≤ D.mT k) (hd : d ≤ D.mD k) (hh : h ≤ D.mH k) (hi : i ≤ D.mI k)
    (HO : Hid (o = (D.op k : Int))) (HU : Hid (u = (D.sb k : Int))) (o0 : 0 ≤ o) (o1 : o < 64) (u0 : 0 ≤ u) (u1 : u < 128) (ls : s ≤ 31) (lt : t ≤ 31) (ld : d ≤ 31) (lh : h ≤ 31) (li : i ≤ 67108863)
    (X : Int) (HX : Hid ((o = 0 ∨ o = 28) ∧ X = u ∨ o = 1 ∧ X = u * 65536 ∨ o = 16 ∧ 64 ≤ u ∧ X = 33554432 + (u - 64) ∨ o = 16 ∧ u < 32 ∧ X = u * 2097152 ∨ (o ≠ 0 ∧ o ≠ 28 ∧ o ≠ 1 ∧ o ≠ 16) ∧ X = 0)) :
    Calls Tryd.prog 18 #[.agg #[.int .i64 ((k : Int)), .int .i64 ((s : Int)), .int .i64 ((t : Int)), .int .i64 ((d : Int)), .int .i64 ((h : Int)), .int .u32 ((i : Int))]] w fun e w' => e = .returned (.tuple #[.int .u32 (D.wd k s t d h i : Int), .bool true]) ∧ Below w.heap.size w w' := by
  have HR := Lib.hid (rg_nat h1 h2 hs ht hd hh hi)
  have HI := Lib.hid (inr_nat h2 hs ht hd hh hi)
  have FY := fun w => find_yes k w h1 h2
  rw [← HO.out, ← HU.out] at FY
  clear hs ht hd hh hi
  rcases HX.out with ⟨rfl | rfl, rfl⟩ | ⟨rfl, rfl⟩ | ⟨rfl, hu, rfl⟩ | ⟨rfl, hu, rfl⟩ | ⟨⟨n0, n28, n1, n16⟩, rfl⟩
  all_goals
    clear HX
    try (have f0 : (o == 0) = false := by simpa using n0)
    try (have f28 : (o == 28) = false := by simpa using n28)
    try (have f1 : (o == 1) = false := by simpa using n1)
    try (have f16 : (o == 16) = false := by simpa using n16)
    go_enter Tryd.func18, Tryd.ntmps18
    go_wp2_with fail
    refine (rright_any _ _ _ _ _ _ _ HI).mono ?_
    rintro e w1 ⟨rfl, hb1⟩
    rw [HR.out]
    obtain ⟨hc, hf⟩ := bcell hb1
    have hz : w.heap.size < w1.heap.size := by have := hb1.size; simp at this; omega
    go_wp2_with fail
    refine (FY _).mono ?_
    rintro e w2 ⟨rfl, hb2⟩
    have hb3 := band hb1 hb2
    clear hc hf hz
    obtain ⟨hc, hf⟩ := bcell hb3
    have hz : w.heap.size < w2.heap.size := by have := hb3.size; simp at this; omega
    go_wp2
    go_ret2
    have hb5 := band (below_new (w := w)) hb3
    have hz5 := hb5.size
    refine ⟨ret_w ?_, by (repeat' (first | (with_reducible exact hb5) | (with_reducible apply bel_set) | (with_reducible apply bel_alloc) | (simp [World.setCell]; done) | (simp [World.setCell]; omega) | omega))⟩
    clear hc hf hb1 hb2 hb3 hb5 FY
  · have ho : D.op k = 0 := by have := HO.out; omega
    have hk := ky_a k (by omega) h1 (by simp [op_is, ho])
    rw [ho] at hk
    exact fin1 k s t d h i ls lt ld lh li 0 (D.sb k) rfl HU.out (by omega) (by have := sb_lt k (by omega); omega) hk
  · have ho : D.op k = 28 := by have := HO.out; omega
    have hk := ky_a k (by omega) h1 (by simp [op_is, ho])
    rw [ho] at hk
    exact fin1 k s t d h i ls lt ld lh li 1879048192 (D.sb k) rfl HU.out (by omega) (by have := sb_lt k (by omega); omega) hk
  · have ho : D.op k = 1 := by have := HO.out; omega
    have hk := ky_1 k (by omega) h1 (by simp [op_is, ho])
    exact fin1 k s t d h i ls lt ld lh li 67108864 (D.sb k * 65536) rfl (by have := HU.out; omega) (by omega) (by have := sb_lt k (by omega); omega) hk
  · have ho : D.op k = 16 := by have := HO.out; omega
    have hv : 64 ≤ D.sb k := by have := HU.out; omega
    have hk := ky_c k (by omega) h1 (by simp [op_is, ho, hv])
    exact fin2 k s t d h i ls lt ld lh li 1073741824 33554432 (D.sb k - 64) rfl rfl (by have := HU.out; omega) (by omega) (by omega) (by have := sb_lt k (by omega); omega) hk
  · have ho : D.op k = 16 := by have := HO.out; omega
    have hv : D.sb k < 32 := by have := HU.out; omega
    have hk := ky_m k (by omega) h1 (by simp [op_is, ho, hv])
    exact fin1 k s t d h i ls lt ld lh li 1073741824 (D.sb k * 2097152) rfl (by have := HU.out; omega) (by omega) (by have := sb_lt k (by omega); omega) hk
  · have hk := ky_o k (by omega) h1 (by have := HO.out; simp [op_is]; omega)
    exact (fin0 k s t d h i ls lt ld lh li (D.op k * 67108864) (by have := HO.out; omega) (by have := D.op_lt k (by omega); omega) hk).1
theorem rword_yes (k s t d h i : Nat) (w : World) (h1 : 1 ≤ k) (h2 : k ≤ 77) (hs : s ≤ D.mS k) (ht : t ≤ D.mT k) (hd : d ≤ D.mD k) (hh : h ≤ D.mH k) (hi : i ≤ D.mI k) :
    Calls Tryd.prog 18 #[.agg #[.int .i64 ((k : Int)), .int .i64 ((s : Int)), .int .i64 ((t : Int)), .int .i64 ((d : Int)), .int .i64 ((h : Int)), .int .u32 ((i : Int))]] w fun e w' => e = .returned (.tuple #[.int .u32 (D.wd k s t d h i : Int), .bool true]) ∧ Below w.heap.size w w' := by
  have a1 := D.ms k (by omega); have a2 := D.mt k (by omega); have a3 := D.md k (by omega); have a4 := D.mh k (by omega); have a5 := D.mi k (by omega)
  have a6 := D.op_lt k (by omega)
  have a7 := sb_lt k (by omega)
  have go : ∀ X : Int, _ := fun X => rword_at (D.op k) (D.sb k) k s t d h i w h1 h2 hs ht hd hh hi rfl rfl (by omega) (by omega) (by omega) (by omega) (by omega) (by omega) (by omega) (by omega) (by omega) X
  by_cases b0 : D.op k = 0
  · exact go _ (.inl ⟨.inl (by omega), rfl⟩)
  · by_cases b28 : D.op k = 28
    · exact go _ (.inl ⟨.inr (by omega), rfl⟩)
    · by_cases b1 : D.op k = 1
      · exact go _ (.inr (.inl ⟨by omega, rfl⟩))
      · by_cases b16 : D.op k = 16
        · have := sb_16 k (by omega) (by simp [op_is, b16])
          simp at this
          rcases this with h | h
          · exact go _ (.inr (.inr (.inl ⟨by omega, by omega, rfl⟩)))
          · exact go _ (.inr (.inr (.inr (.inl ⟨by omega, by omega, rfl⟩))))
        · exact go _ (.inr (.inr (.inr (.inr ⟨⟨by omega, by omega, by omega, by omega⟩, rfl⟩))))
end Go.Proofs.YtngfjjgejpkmmaaDoor
