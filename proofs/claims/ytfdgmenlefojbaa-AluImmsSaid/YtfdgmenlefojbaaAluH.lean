/-
  Chapter 4: functions Halves of package alu and of the document's own answer.
-/
import Derived.Test.YtfdgmenlefojbaaAluL
namespace Go.Proofs.Ytfdgmenlefojbaa
open Go.RowKit
set_option linter.unusedVariables false

set_option maxHeartbeats 1000000 in
theorem hv15 (a b c h i s t hi lo : Int) (w : World) (s0 : 0 ≤ s) (s1 : s < 4294967296) (t0 : 0 ≤ t) (t1 : t < 4294967296) (i0 : 0 ≤ i) (i1 : i < 4294967296) : Calls Try.prog 15 #[.agg #[.int .i64 15, .int .i64 a, .int .i64 b, .int .i64 c, .int .i64 h, .int .u32 i], .int .u32 s, .int .u32 t, .int .u32 hi, .int .u32 lo] w fun e w' => e = .returned (.tuple #[.int .u32 (hH 15 s t hi), .int .u32 (hL 15 s t lo), .bool true]) ∧ Below w.heap.size w w' := by
  go_enter Try.func15, Try.ntmps15
  go_wp2
  exact bodyPost_ret (v := .tuple #[.int .u32 (hH 15 s t hi), .int .u32 (hL 15 s t lo), .bool true]) (by simp [results, Try.results15, go_sem, hH, hL]) rfl ⟨rfl, below_new⟩
set_option maxHeartbeats 1000000 in
theorem hv17 (a b c h i s t hi lo : Int) (w : World) (s0 : 0 ≤ s) (s1 : s < 4294967296) (t0 : 0 ≤ t) (t1 : t < 4294967296) (i0 : 0 ≤ i) (i1 : i < 4294967296) : Calls Try.prog 15 #[.agg #[.int .i64 17, .int .i64 a, .int .i64 b, .int .i64 c, .int .i64 h, .int .u32 i], .int .u32 s, .int .u32 t, .int .u32 hi, .int .u32 lo] w fun e w' => e = .returned (.tuple #[.int .u32 (hH 17 s t hi), .int .u32 (hL 17 s t lo), .bool true]) ∧ Below w.heap.size w w' := by
  go_enter Try.func15, Try.ntmps15
  go_wp2
  exact bodyPost_ret (v := .tuple #[.int .u32 (hH 17 s t hi), .int .u32 (hL 17 s t lo), .bool true]) (by simp [results, Try.results15, go_sem, hH, hL]) rfl ⟨rfl, below_new⟩
set_option maxHeartbeats 1000000 in
theorem hv18 (a b c h i s t hi lo : Int) (w : World) (s0 : 0 ≤ s) (s1 : s < 4294967296) (t0 : 0 ≤ t) (t1 : t < 4294967296) (i0 : 0 ≤ i) (i1 : i < 4294967296) : Calls Try.prog 15 #[.agg #[.int .i64 18, .int .i64 a, .int .i64 b, .int .i64 c, .int .i64 h, .int .u32 i], .int .u32 s, .int .u32 t, .int .u32 hi, .int .u32 lo] w fun e w' => e = .returned (.tuple #[.int .u32 (hH 18 s t hi), .int .u32 (hL 18 s t lo), .bool true]) ∧ Below w.heap.size w w' := by
  go_enter Try.func15, Try.ntmps15
  go_wp2_with fail
  refine (mul_any _ _ _ _ s0 s1 t0 t1).mono ?_
  rintro e w1 ⟨rfl, rfl⟩
  go_wp2
  exact bodyPost_ret (v := .tuple #[.int .u32 (hH 18 s t hi), .int .u32 (hL 18 s t lo), .bool true]) (by simp [results, Try.results15, go_sem, hH, hL]) rfl ⟨rfl, below_new⟩
set_option maxHeartbeats 1000000 in
theorem hv19 (a b c h i s t hi lo : Int) (w : World) (s0 : 0 ≤ s) (s1 : s < 4294967296) (t0 : 0 ≤ t) (t1 : t < 4294967296) (i0 : 0 ≤ i) (i1 : i < 4294967296) : Calls Try.prog 15 #[.agg #[.int .i64 19, .int .i64 a, .int .i64 b, .int .i64 c, .int .i64 h, .int .u32 i], .int .u32 s, .int .u32 t, .int .u32 hi, .int .u32 lo] w fun e w' => e = .returned (.tuple #[.int .u32 (hH 19 s t hi), .int .u32 (hL 19 s t lo), .bool true]) ∧ Below w.heap.size w w' := by
  go_enter Try.func15, Try.ntmps15
  go_wp2_with fail
  refine (mul_any _ _ _ _ s0 s1 t0 t1).mono ?_
  rintro e w1 ⟨rfl, rfl⟩
  go_wp2
  exact bodyPost_ret (v := .tuple #[.int .u32 (hH 19 s t hi), .int .u32 (hL 19 s t lo), .bool true]) (by simp [results, Try.results15, go_sem, hH, hL]) rfl ⟨rfl, below_new⟩
set_option maxHeartbeats 1000000 in
theorem hv20 (a b c h i s t hi lo : Int) (w : World) (s0 : 0 ≤ s) (s1 : s < 4294967296) (t0 : 0 ≤ t) (t1 : t < 4294967296) (i0 : 0 ≤ i) (i1 : i < 4294967296) : Calls Try.prog 15 #[.agg #[.int .i64 20, .int .i64 a, .int .i64 b, .int .i64 c, .int .i64 h, .int .u32 i], .int .u32 s, .int .u32 t, .int .u32 hi, .int .u32 lo] w fun e w' => e = .returned (.tuple #[.int .u32 (hH 20 s t hi), .int .u32 (hL 20 s t lo), .bool true]) ∧ Below w.heap.size w w' := by
  go_enter Try.func15, Try.ntmps15
  go_wp2_with fail
  refine (div_any _ _ _ _ s0 s1 t0 t1).mono ?_
  rintro e w1 ⟨rfl, n, rfl⟩
  go_wp2
  exact bodyPost_ret (v := .tuple #[.int .u32 (hH 20 s t hi), .int .u32 (hL 20 s t lo), .bool true]) (by simp [results, Try.results15, go_sem, hH, hL]) rfl ⟨rfl, below_drewN below_new _⟩
set_option maxHeartbeats 1000000 in
theorem hv21 (a b c h i s t hi lo : Int) (w : World) (s0 : 0 ≤ s) (s1 : s < 4294967296) (t0 : 0 ≤ t) (t1 : t < 4294967296) (i0 : 0 ≤ i) (i1 : i < 4294967296) : Calls Try.prog 15 #[.agg #[.int .i64 21, .int .i64 a, .int .i64 b, .int .i64 c, .int .i64 h, .int .u32 i], .int .u32 s, .int .u32 t, .int .u32 hi, .int .u32 lo] w fun e w' => e = .returned (.tuple #[.int .u32 (hH 21 s t hi), .int .u32 (hL 21 s t lo), .bool true]) ∧ Below w.heap.size w w' := by
  go_enter Try.func15, Try.ntmps15
  go_wp2_with fail
  refine (div_any _ _ _ _ s0 s1 t0 t1).mono ?_
  rintro e w1 ⟨rfl, n, rfl⟩
  go_wp2
  exact bodyPost_ret (v := .tuple #[.int .u32 (hH 21 s t hi), .int .u32 (hL 21 s t lo), .bool true]) (by simp [results, Try.results15, go_sem, hH, hL]) rfl ⟨rfl, below_drewN below_new _⟩
set_option maxHeartbeats 1000000 in
theorem hv_out (k a b c h i s t hi lo : Int) (w : World) (s0 : 0 ≤ s) (s1 : s < 4294967296) (t0 : 0 ≤ t) (t1 : t < 4294967296) (i0 : 0 ≤ i) (i1 : i < 4294967296) (hk : isH k = false) : Calls Try.prog 15 #[.agg #[.int .i64 k, .int .i64 a, .int .i64 b, .int .i64 c, .int .i64 h, .int .u32 i], .int .u32 s, .int .u32 t, .int .u32 hi, .int .u32 lo] w fun e w' => e = .returned (.tuple #[.int .u32 hi, .int .u32 lo, .bool false]) ∧ Below w.heap.size w w' := by
  simp only [isH, decide_eq_false_iff_not] at hk
  have e15 : (k == 15) = false := by simp only [beq_eq_false_iff_ne]; omega
  have e17 : (k == 17) = false := by simp only [beq_eq_false_iff_ne]; omega
  have e18 : (k == 18) = false := by simp only [beq_eq_false_iff_ne]; omega
  have e19 : (k == 19) = false := by simp only [beq_eq_false_iff_ne]; omega
  have e20 : (k == 20) = false := by simp only [beq_eq_false_iff_ne]; omega
  have e21 : (k == 21) = false := by simp only [beq_eq_false_iff_ne]; omega
  clear hk
  go_enter Try.func15, Try.ntmps15
  go_wp2
  exact bodyPost_ret (v := .tuple #[.int .u32 (hi), .int .u32 (lo), .bool false]) (by simp [results, Try.results15, go_sem]) rfl ⟨rfl, below_new⟩
theorem hv_any (k a b c h i s t hi lo : Int) (w : World) (s0 : 0 ≤ s) (s1 : s < 4294967296) (t0 : 0 ≤ t) (t1 : t < 4294967296) (i0 : 0 ≤ i) (i1 : i < 4294967296) : Calls Try.prog 15 #[.agg #[.int .i64 k, .int .i64 a, .int .i64 b, .int .i64 c, .int .i64 h, .int .u32 i], .int .u32 s, .int .u32 t, .int .u32 hi, .int .u32 lo] w fun e w' => e = .returned (.tuple #[.int .u32 (hHI k s t hi), .int .u32 (hLI k s t lo), .bool (isH k)]) ∧ Below w.heap.size w w' := by
  cases hk : isH k
  · have e1 : hHI k s t hi = hi := by simp [hHI, hk]
    have e2 : hLI k s t lo = lo := by simp [hLI, hk]
    rw [e1, e2]
    exact hv_out k a b c h i s t hi lo w s0 s1 t0 t1 i0 i1 hk
  · have hk' := hk
    simp only [isH, decide_eq_true_eq] at hk'
    have hK : k = 15 ∨ k = 17 ∨ k = 18 ∨ k = 19 ∨ k = 20 ∨ k = 21 := by omega
    clear hk'
    rcases hK with rfl | rfl | rfl | rfl | rfl | rfl
    · exact hv15 a b c h i s t hi lo w s0 s1 t0 t1 i0 i1
    · exact hv17 a b c h i s t hi lo w s0 s1 t0 t1 i0 i1
    · exact hv18 a b c h i s t hi lo w s0 s1 t0 t1 i0 i1
    · exact hv19 a b c h i s t hi lo w s0 s1 t0 t1 i0 i1
    · exact hv20 a b c h i s t hi lo w s0 s1 t0 t1 i0 i1
    · exact hv21 a b c h i s t hi lo w s0 s1 t0 t1 i0 i1
set_option maxHeartbeats 1000000 in
theorem rhv15 (a b c h i s t hi lo : Int) (w : World) (s0 : 0 ≤ s) (s1 : s < 4294967296) (t0 : 0 ≤ t) (t1 : t < 4294967296) (i0 : 0 ≤ i) (i1 : i < 4294967296) : Calls Try.prog 16 #[.agg #[.int .i64 15, .int .i64 a, .int .i64 b, .int .i64 c, .int .i64 h, .int .u32 i], .int .u32 s, .int .u32 t, .int .u32 hi, .int .u32 lo] w fun e w' => e = .returned (.tuple #[.int .u32 (hH 15 s t hi), .int .u32 (hL 15 s t lo), .bool true]) ∧ Below w.heap.size w w' := by
  go_enter Try.func16, Try.ntmps16
  go_wp2
  exact bodyPost_ret (v := .tuple #[.int .u32 (hH 15 s t hi), .int .u32 (hL 15 s t lo), .bool true]) (by simp [results, Try.results16, go_sem, hH, hL]) rfl ⟨rfl, below_new⟩
set_option maxHeartbeats 1000000 in
theorem rhv17 (a b c h i s t hi lo : Int) (w : World) (s0 : 0 ≤ s) (s1 : s < 4294967296) (t0 : 0 ≤ t) (t1 : t < 4294967296) (i0 : 0 ≤ i) (i1 : i < 4294967296) : Calls Try.prog 16 #[.agg #[.int .i64 17, .int .i64 a, .int .i64 b, .int .i64 c, .int .i64 h, .int .u32 i], .int .u32 s, .int .u32 t, .int .u32 hi, .int .u32 lo] w fun e w' => e = .returned (.tuple #[.int .u32 (hH 17 s t hi), .int .u32 (hL 17 s t lo), .bool true]) ∧ Below w.heap.size w w' := by
  go_enter Try.func16, Try.ntmps16
  go_wp2
  exact bodyPost_ret (v := .tuple #[.int .u32 (hH 17 s t hi), .int .u32 (hL 17 s t lo), .bool true]) (by simp [results, Try.results16, go_sem, hH, hL]) rfl ⟨rfl, below_new⟩
set_option maxHeartbeats 1000000 in
theorem rhv18 (a b c h i s t hi lo : Int) (w : World) (s0 : 0 ≤ s) (s1 : s < 4294967296) (t0 : 0 ≤ t) (t1 : t < 4294967296) (i0 : 0 ≤ i) (i1 : i < 4294967296) : Calls Try.prog 16 #[.agg #[.int .i64 18, .int .i64 a, .int .i64 b, .int .i64 c, .int .i64 h, .int .u32 i], .int .u32 s, .int .u32 t, .int .u32 hi, .int .u32 lo] w fun e w' => e = .returned (.tuple #[.int .u32 (hH 18 s t hi), .int .u32 (hL 18 s t lo), .bool true]) ∧ Below w.heap.size w w' := by
  go_enter Try.func16, Try.ntmps16
  go_wp2_with fail
  refine (rmul_any _ _ _ _ s0 s1 t0 t1).mono ?_
  rintro e w1 ⟨rfl, rfl⟩
  go_wp2
  exact bodyPost_ret (v := .tuple #[.int .u32 (hH 18 s t hi), .int .u32 (hL 18 s t lo), .bool true]) (by simp [results, Try.results16, go_sem, hH, hL]) rfl ⟨rfl, below_new⟩
set_option maxHeartbeats 1000000 in
theorem rhv19 (a b c h i s t hi lo : Int) (w : World) (s0 : 0 ≤ s) (s1 : s < 4294967296) (t0 : 0 ≤ t) (t1 : t < 4294967296) (i0 : 0 ≤ i) (i1 : i < 4294967296) : Calls Try.prog 16 #[.agg #[.int .i64 19, .int .i64 a, .int .i64 b, .int .i64 c, .int .i64 h, .int .u32 i], .int .u32 s, .int .u32 t, .int .u32 hi, .int .u32 lo] w fun e w' => e = .returned (.tuple #[.int .u32 (hH 19 s t hi), .int .u32 (hL 19 s t lo), .bool true]) ∧ Below w.heap.size w w' := by
  go_enter Try.func16, Try.ntmps16
  go_wp2_with fail
  refine (rmul_any _ _ _ _ s0 s1 t0 t1).mono ?_
  rintro e w1 ⟨rfl, rfl⟩
  go_wp2
  exact bodyPost_ret (v := .tuple #[.int .u32 (hH 19 s t hi), .int .u32 (hL 19 s t lo), .bool true]) (by simp [results, Try.results16, go_sem, hH, hL]) rfl ⟨rfl, below_new⟩
set_option maxHeartbeats 1000000 in
theorem rhv20 (a b c h i s t hi lo : Int) (w : World) (s0 : 0 ≤ s) (s1 : s < 4294967296) (t0 : 0 ≤ t) (t1 : t < 4294967296) (i0 : 0 ≤ i) (i1 : i < 4294967296) : Calls Try.prog 16 #[.agg #[.int .i64 20, .int .i64 a, .int .i64 b, .int .i64 c, .int .i64 h, .int .u32 i], .int .u32 s, .int .u32 t, .int .u32 hi, .int .u32 lo] w fun e w' => e = .returned (.tuple #[.int .u32 (hH 20 s t hi), .int .u32 (hL 20 s t lo), .bool true]) ∧ Below w.heap.size w w' := by
  go_enter Try.func16, Try.ntmps16
  go_wp2_with fail
  refine (rdiv_any _ _ _ _ s0 s1 t0 t1).mono ?_
  rintro e w1 ⟨rfl, n, rfl⟩
  go_wp2
  exact bodyPost_ret (v := .tuple #[.int .u32 (hH 20 s t hi), .int .u32 (hL 20 s t lo), .bool true]) (by simp [results, Try.results16, go_sem, hH, hL]) rfl ⟨rfl, below_drewN below_new _⟩
set_option maxHeartbeats 1000000 in
theorem rhv21 (a b c h i s t hi lo : Int) (w : World) (s0 : 0 ≤ s) (s1 : s < 4294967296) (t0 : 0 ≤ t) (t1 : t < 4294967296) (i0 : 0 ≤ i) (i1 : i < 4294967296) : Calls Try.prog 16 #[.agg #[.int .i64 21, .int .i64 a, .int .i64 b, .int .i64 c, .int .i64 h, .int .u32 i], .int .u32 s, .int .u32 t, .int .u32 hi, .int .u32 lo] w fun e w' => e = .returned (.tuple #[.int .u32 (hH 21 s t hi), .int .u32 (hL 21 s t lo), .bool true]) ∧ Below w.heap.size w w' := by
  go_enter Try.func16, Try.ntmps16
  go_wp2_with fail
  refine (rdiv_any _ _ _ _ s0 s1 t0 t1).mono ?_
  rintro e w1 ⟨rfl, n, rfl⟩
  go_wp2
  exact bodyPost_ret (v := .tuple #[.int .u32 (hH 21 s t hi), .int .u32 (hL 21 s t lo), .bool true]) (by simp [results, Try.results16, go_sem, hH, hL]) rfl ⟨rfl, below_drewN below_new _⟩
set_option maxHeartbeats 1000000 in
theorem rhv_out (k a b c h i s t hi lo : Int) (w : World) (s0 : 0 ≤ s) (s1 : s < 4294967296) (t0 : 0 ≤ t) (t1 : t < 4294967296) (i0 : 0 ≤ i) (i1 : i < 4294967296) (hk : isH k = false) : Calls Try.prog 16 #[.agg #[.int .i64 k, .int .i64 a, .int .i64 b, .int .i64 c, .int .i64 h, .int .u32 i], .int .u32 s, .int .u32 t, .int .u32 hi, .int .u32 lo] w fun e w' => e = .returned (.tuple #[.int .u32 hi, .int .u32 lo, .bool false]) ∧ Below w.heap.size w w' := by
  simp only [isH, decide_eq_false_iff_not] at hk
  have e15 : (k == 15) = false := by simp only [beq_eq_false_iff_ne]; omega
  have e17 : (k == 17) = false := by simp only [beq_eq_false_iff_ne]; omega
  have e18 : (k == 18) = false := by simp only [beq_eq_false_iff_ne]; omega
  have e19 : (k == 19) = false := by simp only [beq_eq_false_iff_ne]; omega
  have e20 : (k == 20) = false := by simp only [beq_eq_false_iff_ne]; omega
  have e21 : (k == 21) = false := by simp only [beq_eq_false_iff_ne]; omega
  clear hk
  go_enter Try.func16, Try.ntmps16
  go_wp2
  exact bodyPost_ret (v := .tuple #[.int .u32 (hi), .int .u32 (lo), .bool false]) (by simp [results, Try.results16, go_sem]) rfl ⟨rfl, below_new⟩
theorem rhv_any (k a b c h i s t hi lo : Int) (w : World) (s0 : 0 ≤ s) (s1 : s < 4294967296) (t0 : 0 ≤ t) (t1 : t < 4294967296) (i0 : 0 ≤ i) (i1 : i < 4294967296) : Calls Try.prog 16 #[.agg #[.int .i64 k, .int .i64 a, .int .i64 b, .int .i64 c, .int .i64 h, .int .u32 i], .int .u32 s, .int .u32 t, .int .u32 hi, .int .u32 lo] w fun e w' => e = .returned (.tuple #[.int .u32 (hHI k s t hi), .int .u32 (hLI k s t lo), .bool (isH k)]) ∧ Below w.heap.size w w' := by
  cases hk : isH k
  · have e1 : hHI k s t hi = hi := by simp [hHI, hk]
    have e2 : hLI k s t lo = lo := by simp [hLI, hk]
    rw [e1, e2]
    exact rhv_out k a b c h i s t hi lo w s0 s1 t0 t1 i0 i1 hk
  · have hk' := hk
    simp only [isH, decide_eq_true_eq] at hk'
    have hK : k = 15 ∨ k = 17 ∨ k = 18 ∨ k = 19 ∨ k = 20 ∨ k = 21 := by omega
    clear hk'
    rcases hK with rfl | rfl | rfl | rfl | rfl | rfl
    · exact rhv15 a b c h i s t hi lo w s0 s1 t0 t1 i0 i1
    · exact rhv17 a b c h i s t hi lo w s0 s1 t0 t1 i0 i1
    · exact rhv18 a b c h i s t hi lo w s0 s1 t0 t1 i0 i1
    · exact rhv19 a b c h i s t hi lo w s0 s1 t0 t1 i0 i1
    · exact rhv20 a b c h i s t hi lo w s0 s1 t0 t1 i0 i1
    · exact rhv21 a b c h i s t hi lo w s0 s1 t0 t1 i0 i1
end Go.Proofs.Ytfdgmenlefojbaa
