/-
  Chapter 4: functions Is, Into of package alu and of the document's own answer.
-/
import Derived.Test.YtfdgmenlefojbaaAluD
namespace Go.Proofs.Ytfdgmenlefojbaa
open Go.RowKit
set_option linter.unusedVariables false

set_option maxHeartbeats 1000000 in
theorem is_any (k : Int) (w : World) : Calls Try.prog 18 #[.int .i64 k] w fun e w' => e = .returned (.bool (isN k)) ∧ Below w.heap.size w w' := by
  go_enter Try.func18, Try.ntmps18
  go_wp2_with fail
  refine (do_any k 0 0 0 0 0 0 0 _ (by omega) (by omega) (by omega) (by omega) (by omega) (by omega)).mono ?_
  rintro e w1 ⟨rfl, hb1⟩
  go_wp2
  go_ret
  exact ⟨rfl, hb1⟩
set_option maxHeartbeats 1000000 in
theorem ris0 (k : Int) (w : World) (u : k ≤ 0) : Calls Try.prog 19 #[.int .i64 k] w fun e w' => e = .returned (.bool false) ∧ w = w' := by
  have p1 : decide (1 ≤ k) = false := by simp; omega
  have p22 : decide (22 ≤ k) = false := by simp; omega
  have p46 : decide (46 ≤ k) = false := by simp; omega
  have q6 : decide (k ≤ 6) = true := by simp; omega
  have q31 : decide (k ≤ 31) = true := by simp; omega
  have q53 : decide (k ≤ 53) = true := by simp; omega
  have r63 : (k == 63) = false := by simp only [beq_eq_false_iff_ne]; omega
  have r64 : (k == 64) = false := by simp only [beq_eq_false_iff_ne]; omega
  have r65 : (k == 65) = false := by simp only [beq_eq_false_iff_ne]; omega
  clear u
  go_enter Try.func19, Try.ntmps19
  go_wp2
  go_ret
  exact ⟨rfl, rfl⟩
set_option maxHeartbeats 1000000 in
theorem ris1 (k : Int) (w : World) (l : 1 ≤ k) (u : k ≤ 6) : Calls Try.prog 19 #[.int .i64 k] w fun e w' => e = .returned (.bool true) ∧ w = w' := by
  have p1 : decide (1 ≤ k) = true := by simp; omega
  have p22 : decide (22 ≤ k) = false := by simp; omega
  have p46 : decide (46 ≤ k) = false := by simp; omega
  have q6 : decide (k ≤ 6) = true := by simp; omega
  have q31 : decide (k ≤ 31) = true := by simp; omega
  have q53 : decide (k ≤ 53) = true := by simp; omega
  have r63 : (k == 63) = false := by simp only [beq_eq_false_iff_ne]; omega
  have r64 : (k == 64) = false := by simp only [beq_eq_false_iff_ne]; omega
  have r65 : (k == 65) = false := by simp only [beq_eq_false_iff_ne]; omega
  clear l
  clear u
  go_enter Try.func19, Try.ntmps19
  go_wp2
  go_ret
  exact ⟨rfl, rfl⟩
set_option maxHeartbeats 1000000 in
theorem ris2 (k : Int) (w : World) (l : 7 ≤ k) (u : k ≤ 21) : Calls Try.prog 19 #[.int .i64 k] w fun e w' => e = .returned (.bool false) ∧ w = w' := by
  have p1 : decide (1 ≤ k) = true := by simp; omega
  have p22 : decide (22 ≤ k) = false := by simp; omega
  have p46 : decide (46 ≤ k) = false := by simp; omega
  have q6 : decide (k ≤ 6) = false := by simp; omega
  have q31 : decide (k ≤ 31) = true := by simp; omega
  have q53 : decide (k ≤ 53) = true := by simp; omega
  have r63 : (k == 63) = false := by simp only [beq_eq_false_iff_ne]; omega
  have r64 : (k == 64) = false := by simp only [beq_eq_false_iff_ne]; omega
  have r65 : (k == 65) = false := by simp only [beq_eq_false_iff_ne]; omega
  clear l
  clear u
  go_enter Try.func19, Try.ntmps19
  go_wp2
  go_ret
  exact ⟨rfl, rfl⟩
set_option maxHeartbeats 1000000 in
theorem ris3 (k : Int) (w : World) (l : 22 ≤ k) (u : k ≤ 31) : Calls Try.prog 19 #[.int .i64 k] w fun e w' => e = .returned (.bool true) ∧ w = w' := by
  have p1 : decide (1 ≤ k) = true := by simp; omega
  have p22 : decide (22 ≤ k) = true := by simp; omega
  have p46 : decide (46 ≤ k) = false := by simp; omega
  have q6 : decide (k ≤ 6) = false := by simp; omega
  have q31 : decide (k ≤ 31) = true := by simp; omega
  have q53 : decide (k ≤ 53) = true := by simp; omega
  have r63 : (k == 63) = false := by simp only [beq_eq_false_iff_ne]; omega
  have r64 : (k == 64) = false := by simp only [beq_eq_false_iff_ne]; omega
  have r65 : (k == 65) = false := by simp only [beq_eq_false_iff_ne]; omega
  clear l
  clear u
  go_enter Try.func19, Try.ntmps19
  go_wp2
  go_ret
  exact ⟨rfl, rfl⟩
set_option maxHeartbeats 1000000 in
theorem ris4 (k : Int) (w : World) (l : 32 ≤ k) (u : k ≤ 45) : Calls Try.prog 19 #[.int .i64 k] w fun e w' => e = .returned (.bool false) ∧ w = w' := by
  have p1 : decide (1 ≤ k) = true := by simp; omega
  have p22 : decide (22 ≤ k) = true := by simp; omega
  have p46 : decide (46 ≤ k) = false := by simp; omega
  have q6 : decide (k ≤ 6) = false := by simp; omega
  have q31 : decide (k ≤ 31) = false := by simp; omega
  have q53 : decide (k ≤ 53) = true := by simp; omega
  have r63 : (k == 63) = false := by simp only [beq_eq_false_iff_ne]; omega
  have r64 : (k == 64) = false := by simp only [beq_eq_false_iff_ne]; omega
  have r65 : (k == 65) = false := by simp only [beq_eq_false_iff_ne]; omega
  clear l
  clear u
  go_enter Try.func19, Try.ntmps19
  go_wp2
  go_ret
  exact ⟨rfl, rfl⟩
set_option maxHeartbeats 1000000 in
theorem ris5 (k : Int) (w : World) (l : 46 ≤ k) (u : k ≤ 53) : Calls Try.prog 19 #[.int .i64 k] w fun e w' => e = .returned (.bool true) ∧ w = w' := by
  have p1 : decide (1 ≤ k) = true := by simp; omega
  have p22 : decide (22 ≤ k) = true := by simp; omega
  have p46 : decide (46 ≤ k) = true := by simp; omega
  have q6 : decide (k ≤ 6) = false := by simp; omega
  have q31 : decide (k ≤ 31) = false := by simp; omega
  have q53 : decide (k ≤ 53) = true := by simp; omega
  have r63 : (k == 63) = false := by simp only [beq_eq_false_iff_ne]; omega
  have r64 : (k == 64) = false := by simp only [beq_eq_false_iff_ne]; omega
  have r65 : (k == 65) = false := by simp only [beq_eq_false_iff_ne]; omega
  clear l
  clear u
  go_enter Try.func19, Try.ntmps19
  go_wp2
  go_ret
  exact ⟨rfl, rfl⟩
set_option maxHeartbeats 1000000 in
theorem ris6 (k : Int) (w : World) (l : 54 ≤ k) (u : k ≤ 62) : Calls Try.prog 19 #[.int .i64 k] w fun e w' => e = .returned (.bool false) ∧ w = w' := by
  have p1 : decide (1 ≤ k) = true := by simp; omega
  have p22 : decide (22 ≤ k) = true := by simp; omega
  have p46 : decide (46 ≤ k) = true := by simp; omega
  have q6 : decide (k ≤ 6) = false := by simp; omega
  have q31 : decide (k ≤ 31) = false := by simp; omega
  have q53 : decide (k ≤ 53) = false := by simp; omega
  have r63 : (k == 63) = false := by simp only [beq_eq_false_iff_ne]; omega
  have r64 : (k == 64) = false := by simp only [beq_eq_false_iff_ne]; omega
  have r65 : (k == 65) = false := by simp only [beq_eq_false_iff_ne]; omega
  clear l
  clear u
  go_enter Try.func19, Try.ntmps19
  go_wp2
  go_ret
  exact ⟨rfl, rfl⟩
set_option maxHeartbeats 1000000 in
theorem ris7 (w : World) : Calls Try.prog 19 #[.int .i64 63] w fun e w' => e = .returned (.bool true) ∧ w = w' := by
  go_enter Try.func19, Try.ntmps19
  go_wp2
  go_ret
  exact ⟨rfl, rfl⟩
set_option maxHeartbeats 1000000 in
theorem ris8 (w : World) : Calls Try.prog 19 #[.int .i64 64] w fun e w' => e = .returned (.bool true) ∧ w = w' := by
  go_enter Try.func19, Try.ntmps19
  go_wp2
  go_ret
  exact ⟨rfl, rfl⟩
set_option maxHeartbeats 1000000 in
theorem ris9 (w : World) : Calls Try.prog 19 #[.int .i64 65] w fun e w' => e = .returned (.bool true) ∧ w = w' := by
  go_enter Try.func19, Try.ntmps19
  go_wp2
  go_ret
  exact ⟨rfl, rfl⟩
set_option maxHeartbeats 1000000 in
theorem ris10 (k : Int) (w : World) (l : 66 ≤ k) : Calls Try.prog 19 #[.int .i64 k] w fun e w' => e = .returned (.bool false) ∧ w = w' := by
  have p1 : decide (1 ≤ k) = true := by simp; omega
  have p22 : decide (22 ≤ k) = true := by simp; omega
  have p46 : decide (46 ≤ k) = true := by simp; omega
  have q6 : decide (k ≤ 6) = false := by simp; omega
  have q31 : decide (k ≤ 31) = false := by simp; omega
  have q53 : decide (k ≤ 53) = false := by simp; omega
  have r63 : (k == 63) = false := by simp only [beq_eq_false_iff_ne]; omega
  have r64 : (k == 64) = false := by simp only [beq_eq_false_iff_ne]; omega
  have r65 : (k == 65) = false := by simp only [beq_eq_false_iff_ne]; omega
  clear l
  go_enter Try.func19, Try.ntmps19
  go_wp2
  go_ret
  exact ⟨rfl, rfl⟩
theorem ris_any (k : Int) (w : World) : Calls Try.prog 19 #[.int .i64 k] w fun e w' => e = .returned (.bool (isN k)) ∧ w = w' := by
  by_cases z0 : k ≤ 0
  · rw [show isN k = false by simp [isN]; omega]
    exact ris0 k w (by omega)
  by_cases z1 : 1 ≤ k ∧ k ≤ 6
  · rw [show isN k = true by simp [isN]; omega]
    exact ris1 k w (by omega) (by omega)
  by_cases z2 : 7 ≤ k ∧ k ≤ 21
  · rw [show isN k = false by simp [isN]; omega]
    exact ris2 k w (by omega) (by omega)
  by_cases z3 : 22 ≤ k ∧ k ≤ 31
  · rw [show isN k = true by simp [isN]; omega]
    exact ris3 k w (by omega) (by omega)
  by_cases z4 : 32 ≤ k ∧ k ≤ 45
  · rw [show isN k = false by simp [isN]; omega]
    exact ris4 k w (by omega) (by omega)
  by_cases z5 : 46 ≤ k ∧ k ≤ 53
  · rw [show isN k = true by simp [isN]; omega]
    exact ris5 k w (by omega) (by omega)
  by_cases z6 : 54 ≤ k ∧ k ≤ 62
  · rw [show isN k = false by simp [isN]; omega]
    exact ris6 k w (by omega) (by omega)
  by_cases z7 : 63 ≤ k ∧ k ≤ 63
  · rw [show isN k = true by simp [isN]; omega]
    obtain rfl : k = 63 := by omega
    exact ris7 w
  by_cases z8 : 64 ≤ k ∧ k ≤ 64
  · rw [show isN k = true by simp [isN]; omega]
    obtain rfl : k = 64 := by omega
    exact ris8 w
  by_cases z9 : 65 ≤ k ∧ k ≤ 65
  · rw [show isN k = true by simp [isN]; omega]
    obtain rfl : k = 65 := by omega
    exact ris9 w
  rw [show isN k = false by simp [isN]; omega]
  exact ris10 k w (by omega)
set_option maxHeartbeats 1000000 in
theorem into_any (k a b c h i : Int) (w : World) : Calls Try.prog 20 #[.agg #[.int .i64 k, .int .i64 a, .int .i64 b, .int .i64 c, .int .i64 h, .int .u32 i]] w fun e w' => e = .returned (.int .i64 (into k b c)) ∧ Below w.heap.size w w' := by
  cases hn : isN k
  · go_enter Try.func20, Try.ntmps20
    go_wp2_with fail
    refine (is_any k _).mono ?_
    rintro e w1 ⟨rfl, hb1⟩
    rw [hn]
    go_wp2
    go_ret
    exact ⟨ret_int (by simp [into, hn]), band below_new hb1⟩
  · by_cases h46 : 46 ≤ k
    · by_cases h53 : k ≤ 53
      · go_enter Try.func20, Try.ntmps20
        go_wp2_with fail
        refine (is_any k _).mono ?_
        rintro e w1 ⟨rfl, hb1⟩
        rw [hn]
        have X1 := Lib.hid (ins_below (ins_new w k a b c h i) hb1 (by simp))
        obtain ⟨x0, x1, x2, x3, x4, x5⟩ := X1.out
        have hz : w.heap.size < w1.heap.size := by have := hb1.size; simp at this; omega
        go_wp2
        go_ret
        exact ⟨ret_int (by unfold into; rw [if_pos hn, if_pos (by omega)]), band below_new hb1⟩
      · go_enter Try.func20, Try.ntmps20
        go_wp2_with fail
        refine (is_any k _).mono ?_
        rintro e w1 ⟨rfl, hb1⟩
        rw [hn]
        have X1 := Lib.hid (ins_below (ins_new w k a b c h i) hb1 (by simp))
        obtain ⟨x0, x1, x2, x3, x4, x5⟩ := X1.out
        have hz : w.heap.size < w1.heap.size := by have := hb1.size; simp at this; omega
        go_wp2
        go_ret
        exact ⟨ret_int (by unfold into; rw [if_pos hn, if_neg (by omega)]), band below_new hb1⟩
    · have p46 : decide (46 ≤ k) = false := by simpa using h46
      go_enter Try.func20, Try.ntmps20
      go_wp2_with fail
      refine (is_any k _).mono ?_
      rintro e w1 ⟨rfl, hb1⟩
      rw [hn]
      have X1 := Lib.hid (ins_below (ins_new w k a b c h i) hb1 (by simp))
      obtain ⟨x0, x1, x2, x3, x4, x5⟩ := X1.out
      have hz : w.heap.size < w1.heap.size := by have := hb1.size; simp at this; omega
      go_wp2
      go_ret
      exact ⟨ret_int (by unfold into; rw [if_pos hn, if_neg (by omega)]), band below_new hb1⟩
set_option maxHeartbeats 1000000 in
theorem rinto_any (k a b c h i : Int) (w : World) : Calls Try.prog 21 #[.agg #[.int .i64 k, .int .i64 a, .int .i64 b, .int .i64 c, .int .i64 h, .int .u32 i]] w fun e w' => e = .returned (.int .i64 (into k b c)) ∧ Below w.heap.size w w' := by
  cases hn : isN k
  · go_enter Try.func21, Try.ntmps21
    go_wp2_with fail
    refine (ris_any k _).mono ?_
    rintro e w1 ⟨rfl, rfl⟩
    rw [hn]
    go_wp2
    go_ret
    exact ⟨ret_int (by simp [into, hn]), below_new⟩
  · by_cases h46 : 46 ≤ k
    · by_cases h53 : k ≤ 53
      · go_enter Try.func21, Try.ntmps21
        go_wp2_with fail
        refine (ris_any k _).mono ?_
        rintro e w1 ⟨rfl, rfl⟩
        rw [hn]
        go_wp2
        go_ret
        exact ⟨ret_int (by unfold into; rw [if_pos hn, if_pos (by omega)]), below_new⟩
      · go_enter Try.func21, Try.ntmps21
        go_wp2_with fail
        refine (ris_any k _).mono ?_
        rintro e w1 ⟨rfl, rfl⟩
        rw [hn]
        go_wp2
        go_ret
        exact ⟨ret_int (by unfold into; rw [if_pos hn, if_neg (by omega)]), below_new⟩
    · have p46 : decide (46 ≤ k) = false := by simpa using h46
      go_enter Try.func21, Try.ntmps21
      go_wp2_with fail
      refine (ris_any k _).mono ?_
      rintro e w1 ⟨rfl, rfl⟩
      rw [hn]
      go_wp2
      go_ret
      exact ⟨ret_int (by unfold into; rw [if_pos hn, if_neg (by omega)]), below_new⟩
end Go.Proofs.Ytfdgmenlefojbaa
