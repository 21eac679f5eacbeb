/-
  Chapter 5: function Target of package branch.
-/
import Derived.Test.YtmjlbffphaklgaaCls
namespace Go.Proofs.Ytmjlbffphaklgaa
open Go.RowKit
set_option linter.unusedVariables false

theorem cls_out : ∀ n, n < 78 → ¬(n = 7 ∨ n = 8 ∨ (36 ≤ n ∧ n ≤ 45)) → cls n ≠ 3 := by decide +kernel
theorem clsI_out (k : Int) (hk : brK k = false) : (clsI k != 3) = true := by
  simp only [brK, decide_eq_false_iff_not] at hk
  simp only [bne_iff_ne]
  unfold clsI
  split
  · next h =>
    simp only [isK, decide_eq_true_eq] at h
    have := cls_out k.toNat (by omega) (by omega)
    omega
  · omega
set_option maxHeartbeats 1000000 in
theorem tg7 (a b c h i pc s : Int) (w : World) (p0 : 0 ≤ pc) (p1 : pc < 4294967296) (s0 : 0 ≤ s) (s1 : s < 4294967296) (i0 : 0 ≤ i) (i1 : i < 67108864) : Calls Try.prog 13 #[.agg #[.int .i64 7, .int .i64 a, .int .i64 b, .int .i64 c, .int .i64 h, .int .u32 i], .int .u32 pc, .int .u32 s] w fun e w' => e = .returned (.int .u32 (tg 7 i pc s)) ∧ Below w.heap.size w w' := by
  have HC := Lib.hid (show clsI 7 = 3 by simp [clsI, isK, cls])
  go_enter Try.func13, Try.ntmps13
  go_wp2_with fail
  refine (cl_any 7 a b c h i _).mono ?_
  rintro e w1 ⟨rfl, hb1⟩
  rw [HC.out]
  obtain ⟨x0, x1, x2, x3, x4, x5⟩ := ins_below (ins_new w 7 a b c h i) hb1 (by simp)
  have hB := band (below_new (w := w)) hb1
  clear hb1
  go_wp2
  go_ret
  exact ⟨rfl, hB⟩
set_option maxHeartbeats 1000000 in
theorem tg8 (a b c h i pc s : Int) (w : World) (p0 : 0 ≤ pc) (p1 : pc < 4294967296) (s0 : 0 ≤ s) (s1 : s < 4294967296) (i0 : 0 ≤ i) (i1 : i < 67108864) : Calls Try.prog 13 #[.agg #[.int .i64 8, .int .i64 a, .int .i64 b, .int .i64 c, .int .i64 h, .int .u32 i], .int .u32 pc, .int .u32 s] w fun e w' => e = .returned (.int .u32 (tg 8 i pc s)) ∧ Below w.heap.size w w' := by
  have HC := Lib.hid (show clsI 8 = 3 by simp [clsI, isK, cls])
  go_enter Try.func13, Try.ntmps13
  go_wp2_with fail
  refine (cl_any 8 a b c h i _).mono ?_
  rintro e w1 ⟨rfl, hb1⟩
  rw [HC.out]
  obtain ⟨x0, x1, x2, x3, x4, x5⟩ := ins_below (ins_new w 8 a b c h i) hb1 (by simp)
  have hB := band (below_new (w := w)) hb1
  clear hb1
  go_wp2
  go_ret
  exact ⟨rfl, hB⟩
set_option maxHeartbeats 1000000 in
theorem tg36 (a b c h i pc s : Int) (w : World) (p0 : 0 ≤ pc) (p1 : pc < 4294967296) (s0 : 0 ≤ s) (s1 : s < 4294967296) (i0 : 0 ≤ i) (i1 : i < 67108864) : Calls Try.prog 13 #[.agg #[.int .i64 36, .int .i64 a, .int .i64 b, .int .i64 c, .int .i64 h, .int .u32 i], .int .u32 pc, .int .u32 s] w fun e w' => e = .returned (.int .u32 (tg 36 i pc s)) ∧ Below w.heap.size w w' := by
  have HC := Lib.hid (show clsI 36 = 3 by simp [clsI, isK, cls])
  obtain ⟨g0, g1⟩ := sg_rng i i0 (by omega)
  go_enter Try.func13, Try.ntmps13
  go_wp2_with fail
  refine (cl_any 36 a b c h i _).mono ?_
  rintro e w1 ⟨rfl, hb1⟩
  rw [HC.out]
  obtain ⟨x0, x1, x2, x3, x4, x5⟩ := ins_below (ins_new w 36 a b c h i) hb1 (by simp)
  have hB := band (below_new (w := w)) hb1
  clear hb1
  go_wp2_with fail
  refine (sign_any _ _ _ i0 (by omega)).mono ?_
  rintro e w2 ⟨rfl, rfl⟩
  go_wp2
  go_ret
  exact ⟨ret_int (by simp only [tg]; omega), hB⟩
set_option maxHeartbeats 1000000 in
theorem tg37 (a b c h i pc s : Int) (w : World) (p0 : 0 ≤ pc) (p1 : pc < 4294967296) (s0 : 0 ≤ s) (s1 : s < 4294967296) (i0 : 0 ≤ i) (i1 : i < 67108864) : Calls Try.prog 13 #[.agg #[.int .i64 37, .int .i64 a, .int .i64 b, .int .i64 c, .int .i64 h, .int .u32 i], .int .u32 pc, .int .u32 s] w fun e w' => e = .returned (.int .u32 (tg 37 i pc s)) ∧ Below w.heap.size w w' := by
  have HC := Lib.hid (show clsI 37 = 3 by simp [clsI, isK, cls])
  obtain ⟨g0, g1⟩ := sg_rng i i0 (by omega)
  go_enter Try.func13, Try.ntmps13
  go_wp2_with fail
  refine (cl_any 37 a b c h i _).mono ?_
  rintro e w1 ⟨rfl, hb1⟩
  rw [HC.out]
  obtain ⟨x0, x1, x2, x3, x4, x5⟩ := ins_below (ins_new w 37 a b c h i) hb1 (by simp)
  have hB := band (below_new (w := w)) hb1
  clear hb1
  go_wp2_with fail
  refine (sign_any _ _ _ i0 (by omega)).mono ?_
  rintro e w2 ⟨rfl, rfl⟩
  go_wp2
  go_ret
  exact ⟨ret_int (by simp only [tg]; omega), hB⟩
set_option maxHeartbeats 1000000 in
theorem tg38 (a b c h i pc s : Int) (w : World) (p0 : 0 ≤ pc) (p1 : pc < 4294967296) (s0 : 0 ≤ s) (s1 : s < 4294967296) (i0 : 0 ≤ i) (i1 : i < 67108864) : Calls Try.prog 13 #[.agg #[.int .i64 38, .int .i64 a, .int .i64 b, .int .i64 c, .int .i64 h, .int .u32 i], .int .u32 pc, .int .u32 s] w fun e w' => e = .returned (.int .u32 (tg 38 i pc s)) ∧ Below w.heap.size w w' := by
  have HC := Lib.hid (show clsI 38 = 3 by simp [clsI, isK, cls])
  obtain ⟨g0, g1⟩ := sg_rng i i0 (by omega)
  go_enter Try.func13, Try.ntmps13
  go_wp2_with fail
  refine (cl_any 38 a b c h i _).mono ?_
  rintro e w1 ⟨rfl, hb1⟩
  rw [HC.out]
  obtain ⟨x0, x1, x2, x3, x4, x5⟩ := ins_below (ins_new w 38 a b c h i) hb1 (by simp)
  have hB := band (below_new (w := w)) hb1
  clear hb1
  go_wp2_with fail
  refine (sign_any _ _ _ i0 (by omega)).mono ?_
  rintro e w2 ⟨rfl, rfl⟩
  go_wp2
  go_ret
  exact ⟨ret_int (by simp only [tg]; omega), hB⟩
set_option maxHeartbeats 1000000 in
theorem tg39 (a b c h i pc s : Int) (w : World) (p0 : 0 ≤ pc) (p1 : pc < 4294967296) (s0 : 0 ≤ s) (s1 : s < 4294967296) (i0 : 0 ≤ i) (i1 : i < 67108864) : Calls Try.prog 13 #[.agg #[.int .i64 39, .int .i64 a, .int .i64 b, .int .i64 c, .int .i64 h, .int .u32 i], .int .u32 pc, .int .u32 s] w fun e w' => e = .returned (.int .u32 (tg 39 i pc s)) ∧ Below w.heap.size w w' := by
  have HC := Lib.hid (show clsI 39 = 3 by simp [clsI, isK, cls])
  obtain ⟨g0, g1⟩ := sg_rng i i0 (by omega)
  go_enter Try.func13, Try.ntmps13
  go_wp2_with fail
  refine (cl_any 39 a b c h i _).mono ?_
  rintro e w1 ⟨rfl, hb1⟩
  rw [HC.out]
  obtain ⟨x0, x1, x2, x3, x4, x5⟩ := ins_below (ins_new w 39 a b c h i) hb1 (by simp)
  have hB := band (below_new (w := w)) hb1
  clear hb1
  go_wp2_with fail
  refine (sign_any _ _ _ i0 (by omega)).mono ?_
  rintro e w2 ⟨rfl, rfl⟩
  go_wp2
  go_ret
  exact ⟨ret_int (by simp only [tg]; omega), hB⟩
set_option maxHeartbeats 1000000 in
theorem tg40 (a b c h i pc s : Int) (w : World) (p0 : 0 ≤ pc) (p1 : pc < 4294967296) (s0 : 0 ≤ s) (s1 : s < 4294967296) (i0 : 0 ≤ i) (i1 : i < 67108864) : Calls Try.prog 13 #[.agg #[.int .i64 40, .int .i64 a, .int .i64 b, .int .i64 c, .int .i64 h, .int .u32 i], .int .u32 pc, .int .u32 s] w fun e w' => e = .returned (.int .u32 (tg 40 i pc s)) ∧ Below w.heap.size w w' := by
  have HC := Lib.hid (show clsI 40 = 3 by simp [clsI, isK, cls])
  have A1 := and_top ((pc + 4) % 4294967296) (by omega) (by omega)
  have A2 := or_sum ((pc + 4) % 4294967296 / 268435456) (i * 4) (by omega) (by omega) (by omega) (by omega)
  go_enter Try.func13, Try.ntmps13
  go_wp2_with fail
  refine (cl_any 40 a b c h i _).mono ?_
  rintro e w1 ⟨rfl, hb1⟩
  rw [HC.out]
  obtain ⟨x0, x1, x2, x3, x4, x5⟩ := ins_below (ins_new w 40 a b c h i) hb1 (by simp)
  have hB := band (below_new (w := w)) hb1
  clear hb1
  go_wp2
  go_ret
  exact ⟨rfl, hB⟩
set_option maxHeartbeats 1000000 in
theorem tg41 (a b c h i pc s : Int) (w : World) (p0 : 0 ≤ pc) (p1 : pc < 4294967296) (s0 : 0 ≤ s) (s1 : s < 4294967296) (i0 : 0 ≤ i) (i1 : i < 67108864) : Calls Try.prog 13 #[.agg #[.int .i64 41, .int .i64 a, .int .i64 b, .int .i64 c, .int .i64 h, .int .u32 i], .int .u32 pc, .int .u32 s] w fun e w' => e = .returned (.int .u32 (tg 41 i pc s)) ∧ Below w.heap.size w w' := by
  have HC := Lib.hid (show clsI 41 = 3 by simp [clsI, isK, cls])
  have A1 := and_top ((pc + 4) % 4294967296) (by omega) (by omega)
  have A2 := or_sum ((pc + 4) % 4294967296 / 268435456) (i * 4) (by omega) (by omega) (by omega) (by omega)
  go_enter Try.func13, Try.ntmps13
  go_wp2_with fail
  refine (cl_any 41 a b c h i _).mono ?_
  rintro e w1 ⟨rfl, hb1⟩
  rw [HC.out]
  obtain ⟨x0, x1, x2, x3, x4, x5⟩ := ins_below (ins_new w 41 a b c h i) hb1 (by simp)
  have hB := band (below_new (w := w)) hb1
  clear hb1
  go_wp2
  go_ret
  exact ⟨rfl, hB⟩
set_option maxHeartbeats 1000000 in
theorem tg42 (a b c h i pc s : Int) (w : World) (p0 : 0 ≤ pc) (p1 : pc < 4294967296) (s0 : 0 ≤ s) (s1 : s < 4294967296) (i0 : 0 ≤ i) (i1 : i < 67108864) : Calls Try.prog 13 #[.agg #[.int .i64 42, .int .i64 a, .int .i64 b, .int .i64 c, .int .i64 h, .int .u32 i], .int .u32 pc, .int .u32 s] w fun e w' => e = .returned (.int .u32 (tg 42 i pc s)) ∧ Below w.heap.size w w' := by
  have HC := Lib.hid (show clsI 42 = 3 by simp [clsI, isK, cls])
  obtain ⟨g0, g1⟩ := sg_rng i i0 (by omega)
  go_enter Try.func13, Try.ntmps13
  go_wp2_with fail
  refine (cl_any 42 a b c h i _).mono ?_
  rintro e w1 ⟨rfl, hb1⟩
  rw [HC.out]
  obtain ⟨x0, x1, x2, x3, x4, x5⟩ := ins_below (ins_new w 42 a b c h i) hb1 (by simp)
  have hB := band (below_new (w := w)) hb1
  clear hb1
  go_wp2_with fail
  refine (sign_any _ _ _ i0 (by omega)).mono ?_
  rintro e w2 ⟨rfl, rfl⟩
  go_wp2
  go_ret
  exact ⟨ret_int (by simp only [tg]; omega), hB⟩
set_option maxHeartbeats 1000000 in
theorem tg43 (a b c h i pc s : Int) (w : World) (p0 : 0 ≤ pc) (p1 : pc < 4294967296) (s0 : 0 ≤ s) (s1 : s < 4294967296) (i0 : 0 ≤ i) (i1 : i < 67108864) : Calls Try.prog 13 #[.agg #[.int .i64 43, .int .i64 a, .int .i64 b, .int .i64 c, .int .i64 h, .int .u32 i], .int .u32 pc, .int .u32 s] w fun e w' => e = .returned (.int .u32 (tg 43 i pc s)) ∧ Below w.heap.size w w' := by
  have HC := Lib.hid (show clsI 43 = 3 by simp [clsI, isK, cls])
  obtain ⟨g0, g1⟩ := sg_rng i i0 (by omega)
  go_enter Try.func13, Try.ntmps13
  go_wp2_with fail
  refine (cl_any 43 a b c h i _).mono ?_
  rintro e w1 ⟨rfl, hb1⟩
  rw [HC.out]
  obtain ⟨x0, x1, x2, x3, x4, x5⟩ := ins_below (ins_new w 43 a b c h i) hb1 (by simp)
  have hB := band (below_new (w := w)) hb1
  clear hb1
  go_wp2_with fail
  refine (sign_any _ _ _ i0 (by omega)).mono ?_
  rintro e w2 ⟨rfl, rfl⟩
  go_wp2
  go_ret
  exact ⟨ret_int (by simp only [tg]; omega), hB⟩
set_option maxHeartbeats 1000000 in
theorem tg44 (a b c h i pc s : Int) (w : World) (p0 : 0 ≤ pc) (p1 : pc < 4294967296) (s0 : 0 ≤ s) (s1 : s < 4294967296) (i0 : 0 ≤ i) (i1 : i < 67108864) : Calls Try.prog 13 #[.agg #[.int .i64 44, .int .i64 a, .int .i64 b, .int .i64 c, .int .i64 h, .int .u32 i], .int .u32 pc, .int .u32 s] w fun e w' => e = .returned (.int .u32 (tg 44 i pc s)) ∧ Below w.heap.size w w' := by
  have HC := Lib.hid (show clsI 44 = 3 by simp [clsI, isK, cls])
  obtain ⟨g0, g1⟩ := sg_rng i i0 (by omega)
  go_enter Try.func13, Try.ntmps13
  go_wp2_with fail
  refine (cl_any 44 a b c h i _).mono ?_
  rintro e w1 ⟨rfl, hb1⟩
  rw [HC.out]
  obtain ⟨x0, x1, x2, x3, x4, x5⟩ := ins_below (ins_new w 44 a b c h i) hb1 (by simp)
  have hB := band (below_new (w := w)) hb1
  clear hb1
  go_wp2_with fail
  refine (sign_any _ _ _ i0 (by omega)).mono ?_
  rintro e w2 ⟨rfl, rfl⟩
  go_wp2
  go_ret
  exact ⟨ret_int (by simp only [tg]; omega), hB⟩
set_option maxHeartbeats 1000000 in
theorem tg45 (a b c h i pc s : Int) (w : World) (p0 : 0 ≤ pc) (p1 : pc < 4294967296) (s0 : 0 ≤ s) (s1 : s < 4294967296) (i0 : 0 ≤ i) (i1 : i < 67108864) : Calls Try.prog 13 #[.agg #[.int .i64 45, .int .i64 a, .int .i64 b, .int .i64 c, .int .i64 h, .int .u32 i], .int .u32 pc, .int .u32 s] w fun e w' => e = .returned (.int .u32 (tg 45 i pc s)) ∧ Below w.heap.size w w' := by
  have HC := Lib.hid (show clsI 45 = 3 by simp [clsI, isK, cls])
  obtain ⟨g0, g1⟩ := sg_rng i i0 (by omega)
  go_enter Try.func13, Try.ntmps13
  go_wp2_with fail
  refine (cl_any 45 a b c h i _).mono ?_
  rintro e w1 ⟨rfl, hb1⟩
  rw [HC.out]
  obtain ⟨x0, x1, x2, x3, x4, x5⟩ := ins_below (ins_new w 45 a b c h i) hb1 (by simp)
  have hB := band (below_new (w := w)) hb1
  clear hb1
  go_wp2_with fail
  refine (sign_any _ _ _ i0 (by omega)).mono ?_
  rintro e w2 ⟨rfl, rfl⟩
  go_wp2
  go_ret
  exact ⟨ret_int (by simp only [tg]; omega), hB⟩
set_option maxHeartbeats 1000000 in
theorem tg_out (k a b c h i pc s : Int) (w : World) (p0 : 0 ≤ pc) (p1 : pc < 4294967296) (s0 : 0 ≤ s) (s1 : s < 4294967296) (i0 : 0 ≤ i) (i1 : i < 67108864) (hk : brK k = false) : Calls Try.prog 13 #[.agg #[.int .i64 k, .int .i64 a, .int .i64 b, .int .i64 c, .int .i64 h, .int .u32 i], .int .u32 pc, .int .u32 s] w fun e w' => e = .returned (.int .u32 ((pc + 4) % 4294967296)) ∧ Below w.heap.size w w' := by
  have HC := Lib.hid (clsI_out k hk)
  go_enter Try.func13, Try.ntmps13
  go_wp2_with fail
  refine (cl_any k a b c h i _).mono ?_
  rintro e w1 ⟨rfl, hb1⟩
  have hB := band (below_new (w := w)) hb1
  have hc := HC.out
  generalize clsI k = m at hc ⊢
  clear hb1
  go_wp2
  go_ret
  exact ⟨rfl, hB⟩
theorem tg_any (k a b c h i pc s : Int) (w : World) (p0 : 0 ≤ pc) (p1 : pc < 4294967296) (s0 : 0 ≤ s) (s1 : s < 4294967296) (i0 : 0 ≤ i) (i1 : i < 67108864) : Calls Try.prog 13 #[.agg #[.int .i64 k, .int .i64 a, .int .i64 b, .int .i64 c, .int .i64 h, .int .u32 i], .int .u32 pc, .int .u32 s] w fun e w' => e = .returned (.int .u32 (tgI k i pc s)) ∧ Below w.heap.size w w' := by
  cases hk : brK k
  · have e : tgI k i pc s = (pc + 4) % 4294967296 := by simp [tgI, hk]
    rw [e]
    exact tg_out k a b c h i pc s w p0 p1 s0 s1 i0 i1 hk
  · have hk' := hk
    simp only [brK, decide_eq_true_eq] at hk'
    have hK : k = 7 ∨ k = 8 ∨ k = 36 ∨ k = 37 ∨ k = 38 ∨ k = 39 ∨ k = 40 ∨ k = 41 ∨ k = 42 ∨ k = 43 ∨ k = 44 ∨ k = 45 := by omega
    clear hk'
    rcases hK with rfl | rfl | rfl | rfl | rfl | rfl | rfl | rfl | rfl | rfl | rfl | rfl
    · exact tg7 a b c h i pc s w p0 p1 s0 s1 i0 i1
    · exact tg8 a b c h i pc s w p0 p1 s0 s1 i0 i1
    · exact tg36 a b c h i pc s w p0 p1 s0 s1 i0 i1
    · exact tg37 a b c h i pc s w p0 p1 s0 s1 i0 i1
    · exact tg38 a b c h i pc s w p0 p1 s0 s1 i0 i1
    · exact tg39 a b c h i pc s w p0 p1 s0 s1 i0 i1
    · exact tg40 a b c h i pc s w p0 p1 s0 s1 i0 i1
    · exact tg41 a b c h i pc s w p0 p1 s0 s1 i0 i1
    · exact tg42 a b c h i pc s w p0 p1 s0 s1 i0 i1
    · exact tg43 a b c h i pc s w p0 p1 s0 s1 i0 i1
    · exact tg44 a b c h i pc s w p0 p1 s0 s1 i0 i1
    · exact tg45 a b c h i pc s w p0 p1 s0 s1 i0 i1
end Go.Proofs.Ytmjlbffphaklgaa
