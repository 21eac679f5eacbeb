/-
  Chapter 4: functions Traps of package alu and of the document's own answer.
-/
import Derived.Test.YtfdgmenlefojbaaAluL
namespace Go.Proofs.Ytfdgmenlefojbaa
open Go.RowKit
set_option linter.unusedVariables false

set_option maxHeartbeats 1000000 in
theorem tr22 (a b c h i s t : Int) (w : World) (s0 : 0 ≤ s) (s1 : s < 4294967296) (t0 : 0 ≤ t) (t1 : t < 4294967296) (i0 : 0 ≤ i) (i1 : i < 4294967296) : Calls Try.prog 13 #[.agg #[.int .i64 22, .int .i64 a, .int .i64 b, .int .i64 c, .int .i64 h, .int .u32 i], .int .u32 s, .int .u32 t] w fun e w' => e = .returned (.bool (tr 22 i s t)) ∧ Below w.heap.size w w' := by
  go_enter Try.func13, Try.ntmps13
  go_wp2_with fail
  refine (over_any _ _ _ _ s0 s1 t0 t1).mono ?_
  rintro e w1 ⟨rfl, rfl⟩
  go_wp2
  go_ret
  exact ⟨rfl, below_new⟩
set_option maxHeartbeats 1000000 in
theorem tr24 (a b c h i s t : Int) (w : World) (s0 : 0 ≤ s) (s1 : s < 4294967296) (t0 : 0 ≤ t) (t1 : t < 4294967296) (i0 : 0 ≤ i) (i1 : i < 4294967296) : Calls Try.prog 13 #[.agg #[.int .i64 24, .int .i64 a, .int .i64 b, .int .i64 c, .int .i64 h, .int .u32 i], .int .u32 s, .int .u32 t] w fun e w' => e = .returned (.bool (tr 24 i s t)) ∧ Below w.heap.size w w' := by
  go_enter Try.func13, Try.ntmps13
  go_wp2_with fail
  refine (over_any _ _ _ _ s0 s1 t0 t1).mono ?_
  rintro e w1 ⟨rfl, rfl⟩
  go_wp2
  go_ret
  exact ⟨rfl, below_new⟩
set_option maxHeartbeats 1000000 in
theorem tr46 (a b c h i s t : Int) (w : World) (s0 : 0 ≤ s) (s1 : s < 4294967296) (t0 : 0 ≤ t) (t1 : t < 4294967296) (i0 : 0 ≤ i) (i1 : i < 4294967296) : Calls Try.prog 13 #[.agg #[.int .i64 46, .int .i64 a, .int .i64 b, .int .i64 c, .int .i64 h, .int .u32 i], .int .u32 s, .int .u32 t] w fun e w' => e = .returned (.bool (tr 46 i s t)) ∧ Below w.heap.size w w' := by
  obtain ⟨g0, g1⟩ := sg_rng i i0 i1
  go_enter Try.func13, Try.ntmps13
  go_wp2_with fail
  refine (signed_any _ _ _ _ _ _ _ i0 i1).mono ?_
  rintro e w1 ⟨rfl, hb1⟩
  go_wp2_with fail
  refine (over_any _ _ _ _ s0 s1 g0 g1).mono ?_
  rintro e w2 ⟨rfl, rfl⟩
  go_wp2
  go_ret
  exact ⟨rfl, band below_new hb1⟩
set_option maxHeartbeats 1000000 in
theorem tr32 (a b c h i s t : Int) (w : World) (s0 : 0 ≤ s) (s1 : s < 4294967296) (t0 : 0 ≤ t) (t1 : t < 4294967296) (i0 : 0 ≤ i) (i1 : i < 4294967296) : Calls Try.prog 13 #[.agg #[.int .i64 32, .int .i64 a, .int .i64 b, .int .i64 c, .int .i64 h, .int .u32 i], .int .u32 s, .int .u32 t] w fun e w' => e = .returned (.bool (tr 32 i s t)) ∧ Below w.heap.size w w' := by
  go_enter Try.func13, Try.ntmps13
  go_wp2_with fail
  refine (less_any _ _ _ _ s0 s1 t0 t1).mono ?_
  rintro e w1 ⟨rfl, rfl⟩
  go_wp2
  go_ret
  exact ⟨rfl, below_new⟩
set_option maxHeartbeats 1000000 in
theorem tr33 (a b c h i s t : Int) (w : World) (s0 : 0 ≤ s) (s1 : s < 4294967296) (t0 : 0 ≤ t) (t1 : t < 4294967296) (i0 : 0 ≤ i) (i1 : i < 4294967296) : Calls Try.prog 13 #[.agg #[.int .i64 33, .int .i64 a, .int .i64 b, .int .i64 c, .int .i64 h, .int .u32 i], .int .u32 s, .int .u32 t] w fun e w' => e = .returned (.bool (tr 33 i s t)) ∧ Below w.heap.size w w' := by
  go_enter Try.func13, Try.ntmps13
  go_wp2_with fail
  refine (less_any _ _ _ _ s0 s1 t0 t1).mono ?_
  rintro e w1 ⟨rfl, rfl⟩
  go_wp2
  go_ret
  exact ⟨rfl, below_new⟩
set_option maxHeartbeats 1000000 in
theorem tr34 (a b c h i s t : Int) (w : World) (s0 : 0 ≤ s) (s1 : s < 4294967296) (t0 : 0 ≤ t) (t1 : t < 4294967296) (i0 : 0 ≤ i) (i1 : i < 4294967296) : Calls Try.prog 13 #[.agg #[.int .i64 34, .int .i64 a, .int .i64 b, .int .i64 c, .int .i64 h, .int .u32 i], .int .u32 s, .int .u32 t] w fun e w' => e = .returned (.bool (tr 34 i s t)) ∧ Below w.heap.size w w' := by
  go_enter Try.func13, Try.ntmps13
  go_wp2
  go_ret
  exact ⟨rfl, below_new⟩
set_option maxHeartbeats 1000000 in
theorem tr35 (a b c h i s t : Int) (w : World) (s0 : 0 ≤ s) (s1 : s < 4294967296) (t0 : 0 ≤ t) (t1 : t < 4294967296) (i0 : 0 ≤ i) (i1 : i < 4294967296) : Calls Try.prog 13 #[.agg #[.int .i64 35, .int .i64 a, .int .i64 b, .int .i64 c, .int .i64 h, .int .u32 i], .int .u32 s, .int .u32 t] w fun e w' => e = .returned (.bool (tr 35 i s t)) ∧ Below w.heap.size w w' := by
  go_enter Try.func13, Try.ntmps13
  go_wp2
  go_ret
  exact ⟨rfl, below_new⟩
set_option maxHeartbeats 1000000 in
theorem tr_out (k a b c h i s t : Int) (w : World) (s0 : 0 ≤ s) (s1 : s < 4294967296) (t0 : 0 ≤ t) (t1 : t < 4294967296) (i0 : 0 ≤ i) (i1 : i < 4294967296) (hk : isT k = false) : Calls Try.prog 13 #[.agg #[.int .i64 k, .int .i64 a, .int .i64 b, .int .i64 c, .int .i64 h, .int .u32 i], .int .u32 s, .int .u32 t] w fun e w' => e = .returned (.bool false) ∧ Below w.heap.size w w' := by
  simp only [isT, decide_eq_false_iff_not] at hk
  have e22 : (k == 22) = false := by simp only [beq_eq_false_iff_ne]; omega
  have e24 : (k == 24) = false := by simp only [beq_eq_false_iff_ne]; omega
  have e46 : (k == 46) = false := by simp only [beq_eq_false_iff_ne]; omega
  have e32 : (k == 32) = false := by simp only [beq_eq_false_iff_ne]; omega
  have e33 : (k == 33) = false := by simp only [beq_eq_false_iff_ne]; omega
  have e34 : (k == 34) = false := by simp only [beq_eq_false_iff_ne]; omega
  have e35 : (k == 35) = false := by simp only [beq_eq_false_iff_ne]; omega
  clear hk
  go_enter Try.func13, Try.ntmps13
  go_wp2
  go_ret
  exact ⟨rfl, below_new⟩
theorem tr_any (k a b c h i s t : Int) (w : World) (s0 : 0 ≤ s) (s1 : s < 4294967296) (t0 : 0 ≤ t) (t1 : t < 4294967296) (i0 : 0 ≤ i) (i1 : i < 4294967296) : Calls Try.prog 13 #[.agg #[.int .i64 k, .int .i64 a, .int .i64 b, .int .i64 c, .int .i64 h, .int .u32 i], .int .u32 s, .int .u32 t] w fun e w' => e = .returned (.bool (trI k i s t)) ∧ Below w.heap.size w w' := by
  cases hk : isT k
  · have e : trI k i s t = false := by simp [trI, hk]
    rw [e]
    exact tr_out k a b c h i s t w s0 s1 t0 t1 i0 i1 hk
  · have hk' := hk
    simp only [isT, decide_eq_true_eq] at hk'
    have hK : k = 22 ∨ k = 24 ∨ k = 46 ∨ k = 32 ∨ k = 33 ∨ k = 34 ∨ k = 35 := by omega
    clear hk'
    rcases hK with rfl | rfl | rfl | rfl | rfl | rfl | rfl
    · exact tr22 a b c h i s t w s0 s1 t0 t1 i0 i1
    · exact tr24 a b c h i s t w s0 s1 t0 t1 i0 i1
    · exact tr46 a b c h i s t w s0 s1 t0 t1 i0 i1
    · exact tr32 a b c h i s t w s0 s1 t0 t1 i0 i1
    · exact tr33 a b c h i s t w s0 s1 t0 t1 i0 i1
    · exact tr34 a b c h i s t w s0 s1 t0 t1 i0 i1
    · exact tr35 a b c h i s t w s0 s1 t0 t1 i0 i1
set_option maxHeartbeats 1000000 in
theorem rtr22 (a b c h i s t : Int) (w : World) (s0 : 0 ≤ s) (s1 : s < 4294967296) (t0 : 0 ≤ t) (t1 : t < 4294967296) (i0 : 0 ≤ i) (i1 : i < 4294967296) : Calls Try.prog 17 #[.agg #[.int .i64 22, .int .i64 a, .int .i64 b, .int .i64 c, .int .i64 h, .int .u32 i], .int .u32 s, .int .u32 t] w fun e w' => e = .returned (.bool (tr 22 i s t)) ∧ Below w.heap.size w w' := by
  go_enter Try.func17, Try.ntmps17
  go_wp2_with fail
  refine (rover_any _ _ _ _ s0 s1 t0 t1).mono ?_
  rintro e w1 ⟨rfl, rfl⟩
  go_wp2
  go_ret
  exact ⟨rfl, below_new⟩
set_option maxHeartbeats 1000000 in
theorem rtr24 (a b c h i s t : Int) (w : World) (s0 : 0 ≤ s) (s1 : s < 4294967296) (t0 : 0 ≤ t) (t1 : t < 4294967296) (i0 : 0 ≤ i) (i1 : i < 4294967296) : Calls Try.prog 17 #[.agg #[.int .i64 24, .int .i64 a, .int .i64 b, .int .i64 c, .int .i64 h, .int .u32 i], .int .u32 s, .int .u32 t] w fun e w' => e = .returned (.bool (tr 24 i s t)) ∧ Below w.heap.size w w' := by
  go_enter Try.func17, Try.ntmps17
  go_wp2_with fail
  refine (rover_any _ _ _ _ s0 s1 t0 t1).mono ?_
  rintro e w1 ⟨rfl, rfl⟩
  go_wp2
  go_ret
  exact ⟨rfl, below_new⟩
set_option maxHeartbeats 1000000 in
theorem rtr46 (a b c h i s t : Int) (w : World) (s0 : 0 ≤ s) (s1 : s < 4294967296) (t0 : 0 ≤ t) (t1 : t < 4294967296) (i0 : 0 ≤ i) (i1 : i < 4294967296) : Calls Try.prog 17 #[.agg #[.int .i64 46, .int .i64 a, .int .i64 b, .int .i64 c, .int .i64 h, .int .u32 i], .int .u32 s, .int .u32 t] w fun e w' => e = .returned (.bool (tr 46 i s t)) ∧ Below w.heap.size w w' := by
  obtain ⟨g0, g1⟩ := sg_rng i i0 i1
  go_enter Try.func17, Try.ntmps17
  go_wp2_with fail
  refine (rsign_any _ _ _ i0 i1).mono ?_
  rintro e w1 ⟨rfl, rfl⟩
  go_wp2_with fail
  refine (rover_any _ _ _ _ s0 s1 g0 g1).mono ?_
  rintro e w2 ⟨rfl, rfl⟩
  go_wp2
  go_ret
  exact ⟨rfl, below_new⟩
set_option maxHeartbeats 1000000 in
theorem rtr32 (a b c h i s t : Int) (w : World) (s0 : 0 ≤ s) (s1 : s < 4294967296) (t0 : 0 ≤ t) (t1 : t < 4294967296) (i0 : 0 ≤ i) (i1 : i < 4294967296) : Calls Try.prog 17 #[.agg #[.int .i64 32, .int .i64 a, .int .i64 b, .int .i64 c, .int .i64 h, .int .u32 i], .int .u32 s, .int .u32 t] w fun e w' => e = .returned (.bool (tr 32 i s t)) ∧ Below w.heap.size w w' := by
  go_enter Try.func17, Try.ntmps17
  go_wp2_with fail
  refine (rless_any _ _ _ _ s0 s1 t0 t1).mono ?_
  rintro e w1 ⟨rfl, rfl⟩
  go_wp2
  go_ret
  exact ⟨rfl, below_new⟩
set_option maxHeartbeats 1000000 in
theorem rtr33 (a b c h i s t : Int) (w : World) (s0 : 0 ≤ s) (s1 : s < 4294967296) (t0 : 0 ≤ t) (t1 : t < 4294967296) (i0 : 0 ≤ i) (i1 : i < 4294967296) : Calls Try.prog 17 #[.agg #[.int .i64 33, .int .i64 a, .int .i64 b, .int .i64 c, .int .i64 h, .int .u32 i], .int .u32 s, .int .u32 t] w fun e w' => e = .returned (.bool (tr 33 i s t)) ∧ Below w.heap.size w w' := by
  go_enter Try.func17, Try.ntmps17
  go_wp2_with fail
  refine (rless_any _ _ _ _ s0 s1 t0 t1).mono ?_
  rintro e w1 ⟨rfl, rfl⟩
  go_wp2
  go_ret
  exact ⟨rfl, below_new⟩
set_option maxHeartbeats 1000000 in
theorem rtr34 (a b c h i s t : Int) (w : World) (s0 : 0 ≤ s) (s1 : s < 4294967296) (t0 : 0 ≤ t) (t1 : t < 4294967296) (i0 : 0 ≤ i) (i1 : i < 4294967296) : Calls Try.prog 17 #[.agg #[.int .i64 34, .int .i64 a, .int .i64 b, .int .i64 c, .int .i64 h, .int .u32 i], .int .u32 s, .int .u32 t] w fun e w' => e = .returned (.bool (tr 34 i s t)) ∧ Below w.heap.size w w' := by
  go_enter Try.func17, Try.ntmps17
  go_wp2
  go_ret
  exact ⟨rfl, below_new⟩
set_option maxHeartbeats 1000000 in
theorem rtr35 (a b c h i s t : Int) (w : World) (s0 : 0 ≤ s) (s1 : s < 4294967296) (t0 : 0 ≤ t) (t1 : t < 4294967296) (i0 : 0 ≤ i) (i1 : i < 4294967296) : Calls Try.prog 17 #[.agg #[.int .i64 35, .int .i64 a, .int .i64 b, .int .i64 c, .int .i64 h, .int .u32 i], .int .u32 s, .int .u32 t] w fun e w' => e = .returned (.bool (tr 35 i s t)) ∧ Below w.heap.size w w' := by
  go_enter Try.func17, Try.ntmps17
  go_wp2
  go_ret
  exact ⟨rfl, below_new⟩
set_option maxHeartbeats 1000000 in
theorem rtr_out (k a b c h i s t : Int) (w : World) (s0 : 0 ≤ s) (s1 : s < 4294967296) (t0 : 0 ≤ t) (t1 : t < 4294967296) (i0 : 0 ≤ i) (i1 : i < 4294967296) (hk : isT k = false) : Calls Try.prog 17 #[.agg #[.int .i64 k, .int .i64 a, .int .i64 b, .int .i64 c, .int .i64 h, .int .u32 i], .int .u32 s, .int .u32 t] w fun e w' => e = .returned (.bool false) ∧ Below w.heap.size w w' := by
  simp only [isT, decide_eq_false_iff_not] at hk
  have e22 : (k == 22) = false := by simp only [beq_eq_false_iff_ne]; omega
  have e24 : (k == 24) = false := by simp only [beq_eq_false_iff_ne]; omega
  have e46 : (k == 46) = false := by simp only [beq_eq_false_iff_ne]; omega
  have e32 : (k == 32) = false := by simp only [beq_eq_false_iff_ne]; omega
  have e33 : (k == 33) = false := by simp only [beq_eq_false_iff_ne]; omega
  have e34 : (k == 34) = false := by simp only [beq_eq_false_iff_ne]; omega
  have e35 : (k == 35) = false := by simp only [beq_eq_false_iff_ne]; omega
  clear hk
  go_enter Try.func17, Try.ntmps17
  go_wp2
  go_ret
  exact ⟨rfl, below_new⟩
theorem rtr_any (k a b c h i s t : Int) (w : World) (s0 : 0 ≤ s) (s1 : s < 4294967296) (t0 : 0 ≤ t) (t1 : t < 4294967296) (i0 : 0 ≤ i) (i1 : i < 4294967296) : Calls Try.prog 17 #[.agg #[.int .i64 k, .int .i64 a, .int .i64 b, .int .i64 c, .int .i64 h, .int .u32 i], .int .u32 s, .int .u32 t] w fun e w' => e = .returned (.bool (trI k i s t)) ∧ Below w.heap.size w w' := by
  cases hk : isT k
  · have e : trI k i s t = false := by simp [trI, hk]
    rw [e]
    exact rtr_out k a b c h i s t w s0 s1 t0 t1 i0 i1 hk
  · have hk' := hk
    simp only [isT, decide_eq_true_eq] at hk'
    have hK : k = 22 ∨ k = 24 ∨ k = 46 ∨ k = 32 ∨ k = 33 ∨ k = 34 ∨ k = 35 := by omega
    clear hk'
    rcases hK with rfl | rfl | rfl | rfl | rfl | rfl | rfl
    · exact rtr22 a b c h i s t w s0 s1 t0 t1 i0 i1
    · exact rtr24 a b c h i s t w s0 s1 t0 t1 i0 i1
    · exact rtr46 a b c h i s t w s0 s1 t0 t1 i0 i1
    · exact rtr32 a b c h i s t w s0 s1 t0 t1 i0 i1
    · exact rtr33 a b c h i s t w s0 s1 t0 t1 i0 i1
    · exact rtr34 a b c h i s t w s0 s1 t0 t1 i0 i1
    · exact rtr35 a b c h i s t w s0 s1 t0 t1 i0 i1
end Go.Proofs.Ytfdgmenlefojbaa
