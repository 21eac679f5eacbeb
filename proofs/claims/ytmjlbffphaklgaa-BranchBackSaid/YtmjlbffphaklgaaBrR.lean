/-
  Chapter 5: function Target of the document's own answer.
-/
import Derived.Test.YtmjlbffphaklgaaBrM
namespace Go.Proofs.Ytmjlbffphaklgaa
open Go.RowKit
set_option linter.unusedVariables false

set_option maxHeartbeats 1000000 in
theorem rtg7 (a b c h i pc s : Int) (w : World) (p0 : 0 ≤ pc) (p1 : pc < 4294967296) (s0 : 0 ≤ s) (s1 : s < 4294967296) (i0 : 0 ≤ i) (i1 : i < 67108864) : Calls Try.prog 16 #[.agg #[.int .i64 7, .int .i64 a, .int .i64 b, .int .i64 c, .int .i64 h, .int .u32 i], .int .u32 pc, .int .u32 s] w fun e w' => e = .returned (.int .u32 (tg 7 i pc s)) ∧ Below w.heap.size w w' := by
  go_enter Try.func16, Try.ntmps16
  go_wp2
  go_ret
  exact ⟨rfl, below_new⟩
set_option maxHeartbeats 1000000 in
theorem rtg8 (a b c h i pc s : Int) (w : World) (p0 : 0 ≤ pc) (p1 : pc < 4294967296) (s0 : 0 ≤ s) (s1 : s < 4294967296) (i0 : 0 ≤ i) (i1 : i < 67108864) : Calls Try.prog 16 #[.agg #[.int .i64 8, .int .i64 a, .int .i64 b, .int .i64 c, .int .i64 h, .int .u32 i], .int .u32 pc, .int .u32 s] w fun e w' => e = .returned (.int .u32 (tg 8 i pc s)) ∧ Below w.heap.size w w' := by
  go_enter Try.func16, Try.ntmps16
  go_wp2
  go_ret
  exact ⟨rfl, below_new⟩
set_option maxHeartbeats 1000000 in
theorem rtg36 (a b c h i pc s : Int) (w : World) (p0 : 0 ≤ pc) (p1 : pc < 4294967296) (s0 : 0 ≤ s) (s1 : s < 4294967296) (i0 : 0 ≤ i) (i1 : i < 67108864) : Calls Try.prog 16 #[.agg #[.int .i64 36, .int .i64 a, .int .i64 b, .int .i64 c, .int .i64 h, .int .u32 i], .int .u32 pc, .int .u32 s] w fun e w' => e = .returned (.int .u32 (tg 36 i pc s)) ∧ Below w.heap.size w w' := by
  obtain ⟨g0, g1⟩ := sg_rng i i0 (by omega)
  go_enter Try.func16, Try.ntmps16
  go_wp2_with fail
  refine (rsign_any _ _ _ i0 (by omega)).mono ?_
  rintro e w2 ⟨rfl, rfl⟩
  go_wp2
  go_ret
  exact ⟨ret_int (by simp only [tg]; omega), below_new⟩
set_option maxHeartbeats 1000000 in
theorem rtg37 (a b c h i pc s : Int) (w : World) (p0 : 0 ≤ pc) (p1 : pc < 4294967296) (s0 : 0 ≤ s) (s1 : s < 4294967296) (i0 : 0 ≤ i) (i1 : i < 67108864) : Calls Try.prog 16 #[.agg #[.int .i64 37, .int .i64 a, .int .i64 b, .int .i64 c, .int .i64 h, .int .u32 i], .int .u32 pc, .int .u32 s] w fun e w' => e = .returned (.int .u32 (tg 37 i pc s)) ∧ Below w.heap.size w w' := by
  obtain ⟨g0, g1⟩ := sg_rng i i0 (by omega)
  go_enter Try.func16, Try.ntmps16
  go_wp2_with fail
  refine (rsign_any _ _ _ i0 (by omega)).mono ?_
  rintro e w2 ⟨rfl, rfl⟩
  go_wp2
  go_ret
  exact ⟨ret_int (by simp only [tg]; omega), below_new⟩
set_option maxHeartbeats 1000000 in
theorem rtg38 (a b c h i pc s : Int) (w : World) (p0 : 0 ≤ pc) (p1 : pc < 4294967296) (s0 : 0 ≤ s) (s1 : s < 4294967296) (i0 : 0 ≤ i) (i1 : i < 67108864) : Calls Try.prog 16 #[.agg #[.int .i64 38, .int .i64 a, .int .i64 b, .int .i64 c, .int .i64 h, .int .u32 i], .int .u32 pc, .int .u32 s] w fun e w' => e = .returned (.int .u32 (tg 38 i pc s)) ∧ Below w.heap.size w w' := by
  obtain ⟨g0, g1⟩ := sg_rng i i0 (by omega)
  go_enter Try.func16, Try.ntmps16
  go_wp2_with fail
  refine (rsign_any _ _ _ i0 (by omega)).mono ?_
  rintro e w2 ⟨rfl, rfl⟩
  go_wp2
  go_ret
  exact ⟨ret_int (by simp only [tg]; omega), below_new⟩
set_option maxHeartbeats 1000000 in
theorem rtg39 (a b c h i pc s : Int) (w : World) (p0 : 0 ≤ pc) (p1 : pc < 4294967296) (s0 : 0 ≤ s) (s1 : s < 4294967296) (i0 : 0 ≤ i) (i1 : i < 67108864) : Calls Try.prog 16 #[.agg #[.int .i64 39, .int .i64 a, .int .i64 b, .int .i64 c, .int .i64 h, .int .u32 i], .int .u32 pc, .int .u32 s] w fun e w' => e = .returned (.int .u32 (tg 39 i pc s)) ∧ Below w.heap.size w w' := by
  obtain ⟨g0, g1⟩ := sg_rng i i0 (by omega)
  go_enter Try.func16, Try.ntmps16
  go_wp2_with fail
  refine (rsign_any _ _ _ i0 (by omega)).mono ?_
  rintro e w2 ⟨rfl, rfl⟩
  go_wp2
  go_ret
  exact ⟨ret_int (by simp only [tg]; omega), below_new⟩
set_option maxHeartbeats 1000000 in
theorem rtg40 (a b c h i pc s : Int) (w : World) (p0 : 0 ≤ pc) (p1 : pc < 4294967296) (s0 : 0 ≤ s) (s1 : s < 4294967296) (i0 : 0 ≤ i) (i1 : i < 67108864) : Calls Try.prog 16 #[.agg #[.int .i64 40, .int .i64 a, .int .i64 b, .int .i64 c, .int .i64 h, .int .u32 i], .int .u32 pc, .int .u32 s] w fun e w' => e = .returned (.int .u32 (tg 40 i pc s)) ∧ Below w.heap.size w w' := by
  have A1 := and_top ((pc + 4) % 4294967296) (by omega) (by omega)
  have A2 := or_sum ((pc + 4) % 4294967296 / 268435456) (i * 4) (by omega) (by omega) (by omega) (by omega)
  have A3 : bits .and .u32 i 67108863 = i := by rw [and26 i i0 (by omega)]; omega
  go_enter Try.func16, Try.ntmps16
  go_wp2
  go_ret
  exact ⟨rfl, below_new⟩
set_option maxHeartbeats 1000000 in
theorem rtg41 (a b c h i pc s : Int) (w : World) (p0 : 0 ≤ pc) (p1 : pc < 4294967296) (s0 : 0 ≤ s) (s1 : s < 4294967296) (i0 : 0 ≤ i) (i1 : i < 67108864) : Calls Try.prog 16 #[.agg #[.int .i64 41, .int .i64 a, .int .i64 b, .int .i64 c, .int .i64 h, .int .u32 i], .int .u32 pc, .int .u32 s] w fun e w' => e = .returned (.int .u32 (tg 41 i pc s)) ∧ Below w.heap.size w w' := by
  have A1 := and_top ((pc + 4) % 4294967296) (by omega) (by omega)
  have A2 := or_sum ((pc + 4) % 4294967296 / 268435456) (i * 4) (by omega) (by omega) (by omega) (by omega)
  have A3 : bits .and .u32 i 67108863 = i := by rw [and26 i i0 (by omega)]; omega
  go_enter Try.func16, Try.ntmps16
  go_wp2
  go_ret
  exact ⟨rfl, below_new⟩
set_option maxHeartbeats 1000000 in
theorem rtg42 (a b c h i pc s : Int) (w : World) (p0 : 0 ≤ pc) (p1 : pc < 4294967296) (s0 : 0 ≤ s) (s1 : s < 4294967296) (i0 : 0 ≤ i) (i1 : i < 67108864) : Calls Try.prog 16 #[.agg #[.int .i64 42, .int .i64 a, .int .i64 b, .int .i64 c, .int .i64 h, .int .u32 i], .int .u32 pc, .int .u32 s] w fun e w' => e = .returned (.int .u32 (tg 42 i pc s)) ∧ Below w.heap.size w w' := by
  obtain ⟨g0, g1⟩ := sg_rng i i0 (by omega)
  go_enter Try.func16, Try.ntmps16
  go_wp2_with fail
  refine (rsign_any _ _ _ i0 (by omega)).mono ?_
  rintro e w2 ⟨rfl, rfl⟩
  go_wp2
  go_ret
  exact ⟨ret_int (by simp only [tg]; omega), below_new⟩
set_option maxHeartbeats 1000000 in
theorem rtg43 (a b c h i pc s : Int) (w : World) (p0 : 0 ≤ pc) (p1 : pc < 4294967296) (s0 : 0 ≤ s) (s1 : s < 4294967296) (i0 : 0 ≤ i) (i1 : i < 67108864) : Calls Try.prog 16 #[.agg #[.int .i64 43, .int .i64 a, .int .i64 b, .int .i64 c, .int .i64 h, .int .u32 i], .int .u32 pc, .int .u32 s] w fun e w' => e = .returned (.int .u32 (tg 43 i pc s)) ∧ Below w.heap.size w w' := by
  obtain ⟨g0, g1⟩ := sg_rng i i0 (by omega)
  go_enter Try.func16, Try.ntmps16
  go_wp2_with fail
  refine (rsign_any _ _ _ i0 (by omega)).mono ?_
  rintro e w2 ⟨rfl, rfl⟩
  go_wp2
  go_ret
  exact ⟨ret_int (by simp only [tg]; omega), below_new⟩
set_option maxHeartbeats 1000000 in
theorem rtg44 (a b c h i pc s : Int) (w : World) (p0 : 0 ≤ pc) (p1 : pc < 4294967296) (s0 : 0 ≤ s) (s1 : s < 4294967296) (i0 : 0 ≤ i) (i1 : i < 67108864) : Calls Try.prog 16 #[.agg #[.int .i64 44, .int .i64 a, .int .i64 b, .int .i64 c, .int .i64 h, .int .u32 i], .int .u32 pc, .int .u32 s] w fun e w' => e = .returned (.int .u32 (tg 44 i pc s)) ∧ Below w.heap.size w w' := by
  obtain ⟨g0, g1⟩ := sg_rng i i0 (by omega)
  go_enter Try.func16, Try.ntmps16
  go_wp2_with fail
  refine (rsign_any _ _ _ i0 (by omega)).mono ?_
  rintro e w2 ⟨rfl, rfl⟩
  go_wp2
  go_ret
  exact ⟨ret_int (by simp only [tg]; omega), below_new⟩
set_option maxHeartbeats 1000000 in
theorem rtg45 (a b c h i pc s : Int) (w : World) (p0 : 0 ≤ pc) (p1 : pc < 4294967296) (s0 : 0 ≤ s) (s1 : s < 4294967296) (i0 : 0 ≤ i) (i1 : i < 67108864) : Calls Try.prog 16 #[.agg #[.int .i64 45, .int .i64 a, .int .i64 b, .int .i64 c, .int .i64 h, .int .u32 i], .int .u32 pc, .int .u32 s] w fun e w' => e = .returned (.int .u32 (tg 45 i pc s)) ∧ Below w.heap.size w w' := by
  obtain ⟨g0, g1⟩ := sg_rng i i0 (by omega)
  go_enter Try.func16, Try.ntmps16
  go_wp2_with fail
  refine (rsign_any _ _ _ i0 (by omega)).mono ?_
  rintro e w2 ⟨rfl, rfl⟩
  go_wp2
  go_ret
  exact ⟨ret_int (by simp only [tg]; omega), below_new⟩
set_option maxHeartbeats 1000000 in
theorem rtg_out (k a b c h i pc s : Int) (w : World) (p0 : 0 ≤ pc) (p1 : pc < 4294967296) (s0 : 0 ≤ s) (s1 : s < 4294967296) (i0 : 0 ≤ i) (i1 : i < 67108864) (hk : brK k = false) : Calls Try.prog 16 #[.agg #[.int .i64 k, .int .i64 a, .int .i64 b, .int .i64 c, .int .i64 h, .int .u32 i], .int .u32 pc, .int .u32 s] w fun e w' => e = .returned (.int .u32 ((pc + 4) % 4294967296)) ∧ Below w.heap.size w w' := by
  simp only [brK, decide_eq_false_iff_not] at hk
  have e7 : (k == 7) = false := by simp only [beq_eq_false_iff_ne]; omega
  have e8 : (k == 8) = false := by simp only [beq_eq_false_iff_ne]; omega
  have e36 : (k == 36) = false := by simp only [beq_eq_false_iff_ne]; omega
  have e37 : (k == 37) = false := by simp only [beq_eq_false_iff_ne]; omega
  have e38 : (k == 38) = false := by simp only [beq_eq_false_iff_ne]; omega
  have e39 : (k == 39) = false := by simp only [beq_eq_false_iff_ne]; omega
  have e40 : (k == 40) = false := by simp only [beq_eq_false_iff_ne]; omega
  have e41 : (k == 41) = false := by simp only [beq_eq_false_iff_ne]; omega
  have e42 : (k == 42) = false := by simp only [beq_eq_false_iff_ne]; omega
  have e43 : (k == 43) = false := by simp only [beq_eq_false_iff_ne]; omega
  have e44 : (k == 44) = false := by simp only [beq_eq_false_iff_ne]; omega
  have e45 : (k == 45) = false := by simp only [beq_eq_false_iff_ne]; omega
  clear hk
  go_enter Try.func16, Try.ntmps16
  go_wp2
  go_ret
  exact ⟨rfl, below_new⟩
theorem rtg_any (k a b c h i pc s : Int) (w : World) (p0 : 0 ≤ pc) (p1 : pc < 4294967296) (s0 : 0 ≤ s) (s1 : s < 4294967296) (i0 : 0 ≤ i) (i1 : i < 67108864) : Calls Try.prog 16 #[.agg #[.int .i64 k, .int .i64 a, .int .i64 b, .int .i64 c, .int .i64 h, .int .u32 i], .int .u32 pc, .int .u32 s] w fun e w' => e = .returned (.int .u32 (tgI k i pc s)) ∧ Below w.heap.size w w' := by
  cases hk : brK k
  · have e : tgI k i pc s = (pc + 4) % 4294967296 := by simp [tgI, hk]
    rw [e]
    exact rtg_out k a b c h i pc s w p0 p1 s0 s1 i0 i1 hk
  · have hk' := hk
    simp only [brK, decide_eq_true_eq] at hk'
    have hK : k = 7 ∨ k = 8 ∨ k = 36 ∨ k = 37 ∨ k = 38 ∨ k = 39 ∨ k = 40 ∨ k = 41 ∨ k = 42 ∨ k = 43 ∨ k = 44 ∨ k = 45 := by omega
    clear hk'
    rcases hK with rfl | rfl | rfl | rfl | rfl | rfl | rfl | rfl | rfl | rfl | rfl | rfl
    · exact rtg7 a b c h i pc s w p0 p1 s0 s1 i0 i1
    · exact rtg8 a b c h i pc s w p0 p1 s0 s1 i0 i1
    · exact rtg36 a b c h i pc s w p0 p1 s0 s1 i0 i1
    · exact rtg37 a b c h i pc s w p0 p1 s0 s1 i0 i1
    · exact rtg38 a b c h i pc s w p0 p1 s0 s1 i0 i1
    · exact rtg39 a b c h i pc s w p0 p1 s0 s1 i0 i1
    · exact rtg40 a b c h i pc s w p0 p1 s0 s1 i0 i1
    · exact rtg41 a b c h i pc s w p0 p1 s0 s1 i0 i1
    · exact rtg42 a b c h i pc s w p0 p1 s0 s1 i0 i1
    · exact rtg43 a b c h i pc s w p0 p1 s0 s1 i0 i1
    · exact rtg44 a b c h i pc s w p0 p1 s0 s1 i0 i1
    · exact rtg45 a b c h i pc s w p0 p1 s0 s1 i0 i1
end Go.Proofs.Ytmjlbffphaklgaa
