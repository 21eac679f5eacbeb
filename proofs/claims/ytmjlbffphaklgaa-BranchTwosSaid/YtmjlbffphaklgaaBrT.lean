/-
  Chapter 5: functions Taken of package branch and of the document's own answer.
-/
import Derived.Test.YtmjlbffphaklgaaBrM
namespace Go.Proofs.Ytmjlbffphaklgaa
open Go.RowKit
set_option linter.unusedVariables false

set_option maxHeartbeats 1000000 in
theorem tk7 (a b c h i s t : Int) (w : World) (s0 : 0 ≤ s) (s1 : s < 4294967296) (t0 : 0 ≤ t) (t1 : t < 4294967296) : Calls Try.prog 10 #[.agg #[.int .i64 7, .int .i64 a, .int .i64 b, .int .i64 c, .int .i64 h, .int .u32 i], .int .u32 s, .int .u32 t] w fun e w' => e = .returned (.bool (tk 7 s t)) ∧ Below w.heap.size w w' := by
  go_enter Try.func10, Try.ntmps10
  go_wp2
  go_ret
  exact ⟨rfl, below_new⟩
set_option maxHeartbeats 1000000 in
theorem tk8 (a b c h i s t : Int) (w : World) (s0 : 0 ≤ s) (s1 : s < 4294967296) (t0 : 0 ≤ t) (t1 : t < 4294967296) : Calls Try.prog 10 #[.agg #[.int .i64 8, .int .i64 a, .int .i64 b, .int .i64 c, .int .i64 h, .int .u32 i], .int .u32 s, .int .u32 t] w fun e w' => e = .returned (.bool (tk 8 s t)) ∧ Below w.heap.size w w' := by
  go_enter Try.func10, Try.ntmps10
  go_wp2
  go_ret
  exact ⟨rfl, below_new⟩
set_option maxHeartbeats 1000000 in
theorem tk36 (a b c h i s t : Int) (w : World) (s0 : 0 ≤ s) (s1 : s < 4294967296) (t0 : 0 ≤ t) (t1 : t < 4294967296) : Calls Try.prog 10 #[.agg #[.int .i64 36, .int .i64 a, .int .i64 b, .int .i64 c, .int .i64 h, .int .u32 i], .int .u32 s, .int .u32 t] w fun e w' => e = .returned (.bool (tk 36 s t)) ∧ Below w.heap.size w w' := by
  have H := Lib.hid (less_neg s s0 s1)
  go_enter Try.func10, Try.ntmps10
  go_wp2_with fail
  refine (less_any _ _ _ _ s0 s1 (by omega) (by omega)).mono ?_
  rintro e w1 ⟨rfl, rfl⟩
  rw [H.out]
  go_wp2
  go_ret
  exact ⟨rfl, below_new⟩
set_option maxHeartbeats 1000000 in
theorem tk37 (a b c h i s t : Int) (w : World) (s0 : 0 ≤ s) (s1 : s < 4294967296) (t0 : 0 ≤ t) (t1 : t < 4294967296) : Calls Try.prog 10 #[.agg #[.int .i64 37, .int .i64 a, .int .i64 b, .int .i64 c, .int .i64 h, .int .u32 i], .int .u32 s, .int .u32 t] w fun e w' => e = .returned (.bool (tk 37 s t)) ∧ Below w.heap.size w w' := by
  have H := Lib.hid (less_neg s s0 s1)
  go_enter Try.func10, Try.ntmps10
  go_wp2_with fail
  refine (less_any _ _ _ _ s0 s1 (by omega) (by omega)).mono ?_
  rintro e w1 ⟨rfl, rfl⟩
  rw [H.out]
  go_wp2
  go_ret
  exact ⟨rfl, below_new⟩
set_option maxHeartbeats 1000000 in
theorem tk38 (a b c h i s t : Int) (w : World) (s0 : 0 ≤ s) (s1 : s < 4294967296) (t0 : 0 ≤ t) (t1 : t < 4294967296) : Calls Try.prog 10 #[.agg #[.int .i64 38, .int .i64 a, .int .i64 b, .int .i64 c, .int .i64 h, .int .u32 i], .int .u32 s, .int .u32 t] w fun e w' => e = .returned (.bool (tk 38 s t)) ∧ Below w.heap.size w w' := by
  have H := Lib.hid (less_neg s s0 s1)
  go_enter Try.func10, Try.ntmps10
  go_wp2_with fail
  refine (less_any _ _ _ _ s0 s1 (by omega) (by omega)).mono ?_
  rintro e w1 ⟨rfl, rfl⟩
  rw [H.out]
  go_wp2
  go_ret
  exact ⟨rfl, below_new⟩
set_option maxHeartbeats 1000000 in
theorem tk39 (a b c h i s t : Int) (w : World) (s0 : 0 ≤ s) (s1 : s < 4294967296) (t0 : 0 ≤ t) (t1 : t < 4294967296) : Calls Try.prog 10 #[.agg #[.int .i64 39, .int .i64 a, .int .i64 b, .int .i64 c, .int .i64 h, .int .u32 i], .int .u32 s, .int .u32 t] w fun e w' => e = .returned (.bool (tk 39 s t)) ∧ Below w.heap.size w w' := by
  have H := Lib.hid (less_neg s s0 s1)
  go_enter Try.func10, Try.ntmps10
  go_wp2_with fail
  refine (less_any _ _ _ _ s0 s1 (by omega) (by omega)).mono ?_
  rintro e w1 ⟨rfl, rfl⟩
  rw [H.out]
  go_wp2
  go_ret
  exact ⟨rfl, below_new⟩
set_option maxHeartbeats 1000000 in
theorem tk40 (a b c h i s t : Int) (w : World) (s0 : 0 ≤ s) (s1 : s < 4294967296) (t0 : 0 ≤ t) (t1 : t < 4294967296) : Calls Try.prog 10 #[.agg #[.int .i64 40, .int .i64 a, .int .i64 b, .int .i64 c, .int .i64 h, .int .u32 i], .int .u32 s, .int .u32 t] w fun e w' => e = .returned (.bool (tk 40 s t)) ∧ Below w.heap.size w w' := by
  go_enter Try.func10, Try.ntmps10
  go_wp2
  go_ret
  exact ⟨rfl, below_new⟩
set_option maxHeartbeats 1000000 in
theorem tk41 (a b c h i s t : Int) (w : World) (s0 : 0 ≤ s) (s1 : s < 4294967296) (t0 : 0 ≤ t) (t1 : t < 4294967296) : Calls Try.prog 10 #[.agg #[.int .i64 41, .int .i64 a, .int .i64 b, .int .i64 c, .int .i64 h, .int .u32 i], .int .u32 s, .int .u32 t] w fun e w' => e = .returned (.bool (tk 41 s t)) ∧ Below w.heap.size w w' := by
  go_enter Try.func10, Try.ntmps10
  go_wp2
  go_ret
  exact ⟨rfl, below_new⟩
set_option maxHeartbeats 1000000 in
theorem tk42 (a b c h i s t : Int) (w : World) (s0 : 0 ≤ s) (s1 : s < 4294967296) (t0 : 0 ≤ t) (t1 : t < 4294967296) : Calls Try.prog 10 #[.agg #[.int .i64 42, .int .i64 a, .int .i64 b, .int .i64 c, .int .i64 h, .int .u32 i], .int .u32 s, .int .u32 t] w fun e w' => e = .returned (.bool (tk 42 s t)) ∧ Below w.heap.size w w' := by
  go_enter Try.func10, Try.ntmps10
  go_wp2
  go_ret
  exact ⟨rfl, below_new⟩
set_option maxHeartbeats 1000000 in
theorem tk43 (a b c h i s t : Int) (w : World) (s0 : 0 ≤ s) (s1 : s < 4294967296) (t0 : 0 ≤ t) (t1 : t < 4294967296) : Calls Try.prog 10 #[.agg #[.int .i64 43, .int .i64 a, .int .i64 b, .int .i64 c, .int .i64 h, .int .u32 i], .int .u32 s, .int .u32 t] w fun e w' => e = .returned (.bool (tk 43 s t)) ∧ Below w.heap.size w w' := by
  go_enter Try.func10, Try.ntmps10
  go_wp2
  go_ret
  exact ⟨rfl, below_new⟩
set_option maxHeartbeats 1000000 in
theorem tk44 (a b c h i s t : Int) (w : World) (s0 : 0 ≤ s) (s1 : s < 4294967296) (t0 : 0 ≤ t) (t1 : t < 4294967296) : Calls Try.prog 10 #[.agg #[.int .i64 44, .int .i64 a, .int .i64 b, .int .i64 c, .int .i64 h, .int .u32 i], .int .u32 s, .int .u32 t] w fun e w' => e = .returned (.bool (tk 44 s t)) ∧ Below w.heap.size w w' := by
  have H := Lib.hid (less_pos s s0 s1)
  go_enter Try.func10, Try.ntmps10
  go_wp2_with fail
  refine (less_any _ _ _ _ (by omega) (by omega) s0 s1).mono ?_
  rintro e w1 ⟨rfl, rfl⟩
  rw [H.out]
  go_wp2
  go_ret
  exact ⟨ret_bool (by simp [tk, bne]), below_new⟩
set_option maxHeartbeats 1000000 in
theorem tk45 (a b c h i s t : Int) (w : World) (s0 : 0 ≤ s) (s1 : s < 4294967296) (t0 : 0 ≤ t) (t1 : t < 4294967296) : Calls Try.prog 10 #[.agg #[.int .i64 45, .int .i64 a, .int .i64 b, .int .i64 c, .int .i64 h, .int .u32 i], .int .u32 s, .int .u32 t] w fun e w' => e = .returned (.bool (tk 45 s t)) ∧ Below w.heap.size w w' := by
  have H := Lib.hid (less_pos s s0 s1)
  go_enter Try.func10, Try.ntmps10
  go_wp2_with fail
  refine (less_any _ _ _ _ (by omega) (by omega) s0 s1).mono ?_
  rintro e w1 ⟨rfl, rfl⟩
  rw [H.out]
  go_wp2
  go_ret
  exact ⟨rfl, below_new⟩
set_option maxHeartbeats 1000000 in
theorem tk_out (k a b c h i s t : Int) (w : World) (s0 : 0 ≤ s) (s1 : s < 4294967296) (t0 : 0 ≤ t) (t1 : t < 4294967296) (hk : brK k = false) : Calls Try.prog 10 #[.agg #[.int .i64 k, .int .i64 a, .int .i64 b, .int .i64 c, .int .i64 h, .int .u32 i], .int .u32 s, .int .u32 t] w fun e w' => e = .returned (.bool (false)) ∧ Below w.heap.size w w' := by
  simp only [brK, decide_eq_false_iff_not] at hk
  have e7 : (k == 7) = false := by simp only [beq_eq_false_iff_ne]; omega
  have e8 : (k == 8) = false := by simp only [beq_eq_false_iff_ne]; omega
  have e36 : (k == 36) = false := by simp only [beq_eq_false_iff_ne]; omega
  have e37 : (k == 37) = false := by simp only [beq_eq_false_iff_ne]; omega
  have e38 : (k == 38) = false := by simp only [beq_eq_false_iff_ne]; omega
  have e39 : (k == 39) = false := by simp only [beq_eq_false_iff_ne]; omega
  have e40 : (k == 40) = false := by simp only [beq_eq_false_iff_ne]; omega
  have e41 : (k == 41) = false := by simp only [beq_eq_false_iff_ne]; omega
  have e42 : (k == 42) = false := by simp only [beq_eq_false_iff_ne]; omega
  have e43 : (k == 43) = false := by simp only [beq_eq_false_iff_ne]; omega
  have e44 : (k == 44) = false := by simp only [beq_eq_false_iff_ne]; omega
  have e45 : (k == 45) = false := by simp only [beq_eq_false_iff_ne]; omega
  clear hk
  go_enter Try.func10, Try.ntmps10
  go_wp2
  go_ret
  exact ⟨rfl, below_new⟩
theorem tk_any (k a b c h i s t : Int) (w : World) (s0 : 0 ≤ s) (s1 : s < 4294967296) (t0 : 0 ≤ t) (t1 : t < 4294967296) : Calls Try.prog 10 #[.agg #[.int .i64 k, .int .i64 a, .int .i64 b, .int .i64 c, .int .i64 h, .int .u32 i], .int .u32 s, .int .u32 t] w fun e w' => e = .returned (.bool (tkI k s t)) ∧ Below w.heap.size w w' := by
  cases hk : brK k
  · have e : tkI k s t = false := by simp [tkI, hk]
    rw [e]
    exact tk_out k a b c h i s t w s0 s1 t0 t1 hk
  · have hk' := hk
    simp only [brK, decide_eq_true_eq] at hk'
    have hK : k = 7 ∨ k = 8 ∨ k = 36 ∨ k = 37 ∨ k = 38 ∨ k = 39 ∨ k = 40 ∨ k = 41 ∨ k = 42 ∨ k = 43 ∨ k = 44 ∨ k = 45 := by omega
    clear hk'
    rcases hK with rfl | rfl | rfl | rfl | rfl | rfl | rfl | rfl | rfl | rfl | rfl | rfl
    · exact tk7 a b c h i s t w s0 s1 t0 t1
    · exact tk8 a b c h i s t w s0 s1 t0 t1
    · exact tk36 a b c h i s t w s0 s1 t0 t1
    · exact tk37 a b c h i s t w s0 s1 t0 t1
    · exact tk38 a b c h i s t w s0 s1 t0 t1
    · exact tk39 a b c h i s t w s0 s1 t0 t1
    · exact tk40 a b c h i s t w s0 s1 t0 t1
    · exact tk41 a b c h i s t w s0 s1 t0 t1
    · exact tk42 a b c h i s t w s0 s1 t0 t1
    · exact tk43 a b c h i s t w s0 s1 t0 t1
    · exact tk44 a b c h i s t w s0 s1 t0 t1
    · exact tk45 a b c h i s t w s0 s1 t0 t1
set_option maxHeartbeats 1000000 in
theorem rtk7 (a b c h i s t : Int) (w : World) (s0 : 0 ≤ s) (s1 : s < 4294967296) (t0 : 0 ≤ t) (t1 : t < 4294967296) : Calls Try.prog 15 #[.agg #[.int .i64 7, .int .i64 a, .int .i64 b, .int .i64 c, .int .i64 h, .int .u32 i], .int .u32 s, .int .u32 t] w fun e w' => e = .returned (.bool (tk 7 s t)) ∧ Below w.heap.size w w' := by
  rcases (by omega : 2147483648 ≤ s ∨ s < 2147483648) with hn | hn
  · have hd : decide (2147483648 ≤ s) = true := by simp; omega
    go_enter Try.func15, Try.ntmps15
    go_wp2
    go_ret
    exact ⟨ret_bool (by first | rfl | (simp [tk]; done) | (simp [tk, hd]; done)), below_new⟩
  · have hd : decide (2147483648 ≤ s) = false := by simp; omega
    go_enter Try.func15, Try.ntmps15
    go_wp2
    go_ret
    exact ⟨ret_bool (by first | rfl | (simp [tk]; done) | (simp [tk, hd]; done)), below_new⟩
set_option maxHeartbeats 1000000 in
theorem rtk8 (a b c h i s t : Int) (w : World) (s0 : 0 ≤ s) (s1 : s < 4294967296) (t0 : 0 ≤ t) (t1 : t < 4294967296) : Calls Try.prog 15 #[.agg #[.int .i64 8, .int .i64 a, .int .i64 b, .int .i64 c, .int .i64 h, .int .u32 i], .int .u32 s, .int .u32 t] w fun e w' => e = .returned (.bool (tk 8 s t)) ∧ Below w.heap.size w w' := by
  rcases (by omega : 2147483648 ≤ s ∨ s < 2147483648) with hn | hn
  · have hd : decide (2147483648 ≤ s) = true := by simp; omega
    go_enter Try.func15, Try.ntmps15
    go_wp2
    go_ret
    exact ⟨ret_bool (by first | rfl | (simp [tk]; done) | (simp [tk, hd]; done)), below_new⟩
  · have hd : decide (2147483648 ≤ s) = false := by simp; omega
    go_enter Try.func15, Try.ntmps15
    go_wp2
    go_ret
    exact ⟨ret_bool (by first | rfl | (simp [tk]; done) | (simp [tk, hd]; done)), below_new⟩
set_option maxHeartbeats 1000000 in
theorem rtk36 (a b c h i s t : Int) (w : World) (s0 : 0 ≤ s) (s1 : s < 4294967296) (t0 : 0 ≤ t) (t1 : t < 4294967296) : Calls Try.prog 15 #[.agg #[.int .i64 36, .int .i64 a, .int .i64 b, .int .i64 c, .int .i64 h, .int .u32 i], .int .u32 s, .int .u32 t] w fun e w' => e = .returned (.bool (tk 36 s t)) ∧ Below w.heap.size w w' := by
  rcases (by omega : 2147483648 ≤ s ∨ s < 2147483648) with hn | hn
  · have hd : decide (2147483648 ≤ s) = true := by simp; omega
    go_enter Try.func15, Try.ntmps15
    go_wp2
    go_ret
    exact ⟨ret_bool (by first | rfl | (simp [tk]; done) | (simp [tk, hd]; done)), below_new⟩
  · have hd : decide (2147483648 ≤ s) = false := by simp; omega
    go_enter Try.func15, Try.ntmps15
    go_wp2
    go_ret
    exact ⟨ret_bool (by first | rfl | (simp [tk]; done) | (simp [tk, hd]; done)), below_new⟩
set_option maxHeartbeats 1000000 in
theorem rtk37 (a b c h i s t : Int) (w : World) (s0 : 0 ≤ s) (s1 : s < 4294967296) (t0 : 0 ≤ t) (t1 : t < 4294967296) : Calls Try.prog 15 #[.agg #[.int .i64 37, .int .i64 a, .int .i64 b, .int .i64 c, .int .i64 h, .int .u32 i], .int .u32 s, .int .u32 t] w fun e w' => e = .returned (.bool (tk 37 s t)) ∧ Below w.heap.size w w' := by
  rcases (by omega : 2147483648 ≤ s ∨ s < 2147483648) with hn | hn
  · have hd : decide (2147483648 ≤ s) = true := by simp; omega
    go_enter Try.func15, Try.ntmps15
    go_wp2
    go_ret
    exact ⟨ret_bool (by first | rfl | (simp [tk]; done) | (simp [tk, hd]; done)), below_new⟩
  · have hd : decide (2147483648 ≤ s) = false := by simp; omega
    go_enter Try.func15, Try.ntmps15
    go_wp2
    go_ret
    exact ⟨ret_bool (by first | rfl | (simp [tk]; done) | (simp [tk, hd]; done)), below_new⟩
set_option maxHeartbeats 1000000 in
theorem rtk38 (a b c h i s t : Int) (w : World) (s0 : 0 ≤ s) (s1 : s < 4294967296) (t0 : 0 ≤ t) (t1 : t < 4294967296) : Calls Try.prog 15 #[.agg #[.int .i64 38, .int .i64 a, .int .i64 b, .int .i64 c, .int .i64 h, .int .u32 i], .int .u32 s, .int .u32 t] w fun e w' => e = .returned (.bool (tk 38 s t)) ∧ Below w.heap.size w w' := by
  rcases (by omega : 2147483648 ≤ s ∨ s < 2147483648) with hn | hn
  · have hd : decide (2147483648 ≤ s) = true := by simp; omega
    go_enter Try.func15, Try.ntmps15
    go_wp2
    go_ret
    exact ⟨ret_bool (by first | rfl | (simp [tk]; done) | (simp [tk, hd]; done)), below_new⟩
  · have hd : decide (2147483648 ≤ s) = false := by simp; omega
    go_enter Try.func15, Try.ntmps15
    go_wp2
    go_ret
    exact ⟨ret_bool (by first | rfl | (simp [tk]; done) | (simp [tk, hd]; done)), below_new⟩
set_option maxHeartbeats 1000000 in
theorem rtk39 (a b c h i s t : Int) (w : World) (s0 : 0 ≤ s) (s1 : s < 4294967296) (t0 : 0 ≤ t) (t1 : t < 4294967296) : Calls Try.prog 15 #[.agg #[.int .i64 39, .int .i64 a, .int .i64 b, .int .i64 c, .int .i64 h, .int .u32 i], .int .u32 s, .int .u32 t] w fun e w' => e = .returned (.bool (tk 39 s t)) ∧ Below w.heap.size w w' := by
  rcases (by omega : 2147483648 ≤ s ∨ s < 2147483648) with hn | hn
  · have hd : decide (2147483648 ≤ s) = true := by simp; omega
    go_enter Try.func15, Try.ntmps15
    go_wp2
    go_ret
    exact ⟨ret_bool (by first | rfl | (simp [tk]; done) | (simp [tk, hd]; done)), below_new⟩
  · have hd : decide (2147483648 ≤ s) = false := by simp; omega
    go_enter Try.func15, Try.ntmps15
    go_wp2
    go_ret
    exact ⟨ret_bool (by first | rfl | (simp [tk]; done) | (simp [tk, hd]; done)), below_new⟩
set_option maxHeartbeats 1000000 in
theorem rtk40 (a b c h i s t : Int) (w : World) (s0 : 0 ≤ s) (s1 : s < 4294967296) (t0 : 0 ≤ t) (t1 : t < 4294967296) : Calls Try.prog 15 #[.agg #[.int .i64 40, .int .i64 a, .int .i64 b, .int .i64 c, .int .i64 h, .int .u32 i], .int .u32 s, .int .u32 t] w fun e w' => e = .returned (.bool (tk 40 s t)) ∧ Below w.heap.size w w' := by
  rcases (by omega : 2147483648 ≤ s ∨ s < 2147483648) with hn | hn
  · have hd : decide (2147483648 ≤ s) = true := by simp; omega
    go_enter Try.func15, Try.ntmps15
    go_wp2
    go_ret
    exact ⟨ret_bool (by first | rfl | (simp [tk]; done) | (simp [tk, hd]; done)), below_new⟩
  · have hd : decide (2147483648 ≤ s) = false := by simp; omega
    go_enter Try.func15, Try.ntmps15
    go_wp2
    go_ret
    exact ⟨ret_bool (by first | rfl | (simp [tk]; done) | (simp [tk, hd]; done)), below_new⟩
set_option maxHeartbeats 1000000 in
theorem rtk41 (a b c h i s t : Int) (w : World) (s0 : 0 ≤ s) (s1 : s < 4294967296) (t0 : 0 ≤ t) (t1 : t < 4294967296) : Calls Try.prog 15 #[.agg #[.int .i64 41, .int .i64 a, .int .i64 b, .int .i64 c, .int .i64 h, .int .u32 i], .int .u32 s, .int .u32 t] w fun e w' => e = .returned (.bool (tk 41 s t)) ∧ Below w.heap.size w w' := by
  rcases (by omega : 2147483648 ≤ s ∨ s < 2147483648) with hn | hn
  · have hd : decide (2147483648 ≤ s) = true := by simp; omega
    go_enter Try.func15, Try.ntmps15
    go_wp2
    go_ret
    exact ⟨ret_bool (by first | rfl | (simp [tk]; done) | (simp [tk, hd]; done)), below_new⟩
  · have hd : decide (2147483648 ≤ s) = false := by simp; omega
    go_enter Try.func15, Try.ntmps15
    go_wp2
    go_ret
    exact ⟨ret_bool (by first | rfl | (simp [tk]; done) | (simp [tk, hd]; done)), below_new⟩
set_option maxHeartbeats 1000000 in
theorem rtk42 (a b c h i s t : Int) (w : World) (s0 : 0 ≤ s) (s1 : s < 4294967296) (t0 : 0 ≤ t) (t1 : t < 4294967296) : Calls Try.prog 15 #[.agg #[.int .i64 42, .int .i64 a, .int .i64 b, .int .i64 c, .int .i64 h, .int .u32 i], .int .u32 s, .int .u32 t] w fun e w' => e = .returned (.bool (tk 42 s t)) ∧ Below w.heap.size w w' := by
  rcases (by omega : 2147483648 ≤ s ∨ s < 2147483648) with hn | hn
  · have hd : decide (2147483648 ≤ s) = true := by simp; omega
    go_enter Try.func15, Try.ntmps15
    go_wp2
    go_ret
    exact ⟨ret_bool (by first | rfl | (simp [tk]; done) | (simp [tk, hd]; done)), below_new⟩
  · have hd : decide (2147483648 ≤ s) = false := by simp; omega
    go_enter Try.func15, Try.ntmps15
    go_wp2
    go_ret
    exact ⟨ret_bool (by first | rfl | (simp [tk]; done) | (simp [tk, hd]; done)), below_new⟩
set_option maxHeartbeats 1000000 in
theorem rtk43 (a b c h i s t : Int) (w : World) (s0 : 0 ≤ s) (s1 : s < 4294967296) (t0 : 0 ≤ t) (t1 : t < 4294967296) : Calls Try.prog 15 #[.agg #[.int .i64 43, .int .i64 a, .int .i64 b, .int .i64 c, .int .i64 h, .int .u32 i], .int .u32 s, .int .u32 t] w fun e w' => e = .returned (.bool (tk 43 s t)) ∧ Below w.heap.size w w' := by
  rcases (by omega : 2147483648 ≤ s ∨ s < 2147483648) with hn | hn
  · have hd : decide (2147483648 ≤ s) = true := by simp; omega
    go_enter Try.func15, Try.ntmps15
    go_wp2
    go_ret
    exact ⟨ret_bool (by first | rfl | (simp [tk]; done) | (simp [tk, hd]; done)), below_new⟩
  · have hd : decide (2147483648 ≤ s) = false := by simp; omega
    go_enter Try.func15, Try.ntmps15
    go_wp2
    go_ret
    exact ⟨ret_bool (by first | rfl | (simp [tk]; done) | (simp [tk, hd]; done)), below_new⟩
set_option maxHeartbeats 1000000 in
theorem rtk44 (a b c h i s t : Int) (w : World) (s0 : 0 ≤ s) (s1 : s < 4294967296) (t0 : 0 ≤ t) (t1 : t < 4294967296) : Calls Try.prog 15 #[.agg #[.int .i64 44, .int .i64 a, .int .i64 b, .int .i64 c, .int .i64 h, .int .u32 i], .int .u32 s, .int .u32 t] w fun e w' => e = .returned (.bool (tk 44 s t)) ∧ Below w.heap.size w w' := by
  rcases (by omega : 2147483648 ≤ s ∨ s < 2147483648) with hn | hn
  · have hd : decide (2147483648 ≤ s) = true := by simp; omega
    go_enter Try.func15, Try.ntmps15
    go_wp2
    go_ret
    exact ⟨ret_bool (by first | rfl | (simp [tk]; done) | (simp [tk, hd]; done)), below_new⟩
  · have hd : decide (2147483648 ≤ s) = false := by simp; omega
    go_enter Try.func15, Try.ntmps15
    go_wp2
    go_ret
    exact ⟨ret_bool (by first | rfl | (simp [tk]; done) | (simp [tk, hd]; done)), below_new⟩
set_option maxHeartbeats 1000000 in
theorem rtk45 (a b c h i s t : Int) (w : World) (s0 : 0 ≤ s) (s1 : s < 4294967296) (t0 : 0 ≤ t) (t1 : t < 4294967296) : Calls Try.prog 15 #[.agg #[.int .i64 45, .int .i64 a, .int .i64 b, .int .i64 c, .int .i64 h, .int .u32 i], .int .u32 s, .int .u32 t] w fun e w' => e = .returned (.bool (tk 45 s t)) ∧ Below w.heap.size w w' := by
  rcases (by omega : 2147483648 ≤ s ∨ s < 2147483648) with hn | hn
  · have hd : decide (2147483648 ≤ s) = true := by simp; omega
    go_enter Try.func15, Try.ntmps15
    go_wp2
    go_ret
    exact ⟨ret_bool (by first | rfl | (simp [tk]; done) | (simp [tk, hd]; done)), below_new⟩
  · have hd : decide (2147483648 ≤ s) = false := by simp; omega
    go_enter Try.func15, Try.ntmps15
    go_wp2
    go_ret
    exact ⟨ret_bool (by first | rfl | (simp [tk]; done) | (simp [tk, hd]; done)), below_new⟩
set_option maxHeartbeats 1000000 in
theorem rtk_out (k a b c h i s t : Int) (w : World) (s0 : 0 ≤ s) (s1 : s < 4294967296) (t0 : 0 ≤ t) (t1 : t < 4294967296) (hk : brK k = false) : Calls Try.prog 15 #[.agg #[.int .i64 k, .int .i64 a, .int .i64 b, .int .i64 c, .int .i64 h, .int .u32 i], .int .u32 s, .int .u32 t] w fun e w' => e = .returned (.bool (false)) ∧ Below w.heap.size w w' := by
  simp only [brK, decide_eq_false_iff_not] at hk
  have e7 : (k == 7) = false := by simp only [beq_eq_false_iff_ne]; omega
  have e8 : (k == 8) = false := by simp only [beq_eq_false_iff_ne]; omega
  have e36 : (k == 36) = false := by simp only [beq_eq_false_iff_ne]; omega
  have e37 : (k == 37) = false := by simp only [beq_eq_false_iff_ne]; omega
  have e38 : (k == 38) = false := by simp only [beq_eq_false_iff_ne]; omega
  have e39 : (k == 39) = false := by simp only [beq_eq_false_iff_ne]; omega
  have e40 : (k == 40) = false := by simp only [beq_eq_false_iff_ne]; omega
  have e41 : (k == 41) = false := by simp only [beq_eq_false_iff_ne]; omega
  have e42 : (k == 42) = false := by simp only [beq_eq_false_iff_ne]; omega
  have e43 : (k == 43) = false := by simp only [beq_eq_false_iff_ne]; omega
  have e44 : (k == 44) = false := by simp only [beq_eq_false_iff_ne]; omega
  have e45 : (k == 45) = false := by simp only [beq_eq_false_iff_ne]; omega
  clear hk
  rcases (by omega : 2147483648 ≤ s ∨ s < 2147483648) with hn | hn
  · have hd : decide (2147483648 ≤ s) = true := by simp; omega
    go_enter Try.func15, Try.ntmps15
    go_wp2
    go_ret
    exact ⟨rfl, below_new⟩
  · have hd : decide (2147483648 ≤ s) = false := by simp; omega
    go_enter Try.func15, Try.ntmps15
    go_wp2
    go_ret
    exact ⟨rfl, below_new⟩
theorem rtk_any (k a b c h i s t : Int) (w : World) (s0 : 0 ≤ s) (s1 : s < 4294967296) (t0 : 0 ≤ t) (t1 : t < 4294967296) : Calls Try.prog 15 #[.agg #[.int .i64 k, .int .i64 a, .int .i64 b, .int .i64 c, .int .i64 h, .int .u32 i], .int .u32 s, .int .u32 t] w fun e w' => e = .returned (.bool (tkI k s t)) ∧ Below w.heap.size w w' := by
  cases hk : brK k
  · have e : tkI k s t = false := by simp [tkI, hk]
    rw [e]
    exact rtk_out k a b c h i s t w s0 s1 t0 t1 hk
  · have hk' := hk
    simp only [brK, decide_eq_true_eq] at hk'
    have hK : k = 7 ∨ k = 8 ∨ k = 36 ∨ k = 37 ∨ k = 38 ∨ k = 39 ∨ k = 40 ∨ k = 41 ∨ k = 42 ∨ k = 43 ∨ k = 44 ∨ k = 45 := by omega
    clear hk'
    rcases hK with rfl | rfl | rfl | rfl | rfl | rfl | rfl | rfl | rfl | rfl | rfl | rfl
    · exact rtk7 a b c h i s t w s0 s1 t0 t1
    · exact rtk8 a b c h i s t w s0 s1 t0 t1
    · exact rtk36 a b c h i s t w s0 s1 t0 t1
    · exact rtk37 a b c h i s t w s0 s1 t0 t1
    · exact rtk38 a b c h i s t w s0 s1 t0 t1
    · exact rtk39 a b c h i s t w s0 s1 t0 t1
    · exact rtk40 a b c h i s t w s0 s1 t0 t1
    · exact rtk41 a b c h i s t w s0 s1 t0 t1
    · exact rtk42 a b c h i s t w s0 s1 t0 t1
    · exact rtk43 a b c h i s t w s0 s1 t0 t1
    · exact rtk44 a b c h i s t w s0 s1 t0 t1
    · exact rtk45 a b c h i s t w s0 s1 t0 t1
end Go.Proofs.Ytmjlbffphaklgaa
