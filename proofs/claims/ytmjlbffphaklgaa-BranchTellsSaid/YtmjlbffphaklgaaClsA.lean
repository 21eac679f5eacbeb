/-
  Function Class of package decode, at each Kind.
-/
import Derived.Test.YtmjlbffphaklgaaBrK
namespace Go.Proofs.Ytmjlbffphaklgaa
open Go.RowKit
set_option linter.unusedVariables false

set_option maxHeartbeats 4000000 in
theorem cl1 (s t d h i : Int) (w : World) : Calls Try.prog 20 #[.agg #[.int .i64 1, .int .i64 s, .int .i64 t, .int .i64 d, .int .i64 h, .int .u32 i]] w fun e w' => e = .returned (.int .i64 1) ∧ Below w.heap.size w w' := by
  go_enter Try.func20, Try.ntmps20
  go_wp2_with fail
  refine (isk_any 1 _).mono ?_
  rintro e w1 ⟨rfl, rfl⟩
  rw [show isK 1 = true from rfl]
  go_wp2
  go_ret
  exact ⟨rfl, below_new⟩
set_option maxHeartbeats 4000000 in
theorem cl2 (s t d h i : Int) (w : World) : Calls Try.prog 20 #[.agg #[.int .i64 2, .int .i64 s, .int .i64 t, .int .i64 d, .int .i64 h, .int .u32 i]] w fun e w' => e = .returned (.int .i64 1) ∧ Below w.heap.size w w' := by
  go_enter Try.func20, Try.ntmps20
  go_wp2_with fail
  refine (isk_any 2 _).mono ?_
  rintro e w1 ⟨rfl, rfl⟩
  rw [show isK 2 = true from rfl]
  go_wp2
  go_ret
  exact ⟨rfl, below_new⟩
set_option maxHeartbeats 4000000 in
theorem cl3 (s t d h i : Int) (w : World) : Calls Try.prog 20 #[.agg #[.int .i64 3, .int .i64 s, .int .i64 t, .int .i64 d, .int .i64 h, .int .u32 i]] w fun e w' => e = .returned (.int .i64 1) ∧ Below w.heap.size w w' := by
  go_enter Try.func20, Try.ntmps20
  go_wp2_with fail
  refine (isk_any 3 _).mono ?_
  rintro e w1 ⟨rfl, rfl⟩
  rw [show isK 3 = true from rfl]
  go_wp2
  go_ret
  exact ⟨rfl, below_new⟩
set_option maxHeartbeats 4000000 in
theorem cl4 (s t d h i : Int) (w : World) : Calls Try.prog 20 #[.agg #[.int .i64 4, .int .i64 s, .int .i64 t, .int .i64 d, .int .i64 h, .int .u32 i]] w fun e w' => e = .returned (.int .i64 1) ∧ Below w.heap.size w w' := by
  go_enter Try.func20, Try.ntmps20
  go_wp2_with fail
  refine (isk_any 4 _).mono ?_
  rintro e w1 ⟨rfl, rfl⟩
  rw [show isK 4 = true from rfl]
  go_wp2
  go_ret
  exact ⟨rfl, below_new⟩
set_option maxHeartbeats 4000000 in
theorem cl5 (s t d h i : Int) (w : World) : Calls Try.prog 20 #[.agg #[.int .i64 5, .int .i64 s, .int .i64 t, .int .i64 d, .int .i64 h, .int .u32 i]] w fun e w' => e = .returned (.int .i64 1) ∧ Below w.heap.size w w' := by
  go_enter Try.func20, Try.ntmps20
  go_wp2_with fail
  refine (isk_any 5 _).mono ?_
  rintro e w1 ⟨rfl, rfl⟩
  rw [show isK 5 = true from rfl]
  go_wp2
  go_ret
  exact ⟨rfl, below_new⟩
set_option maxHeartbeats 4000000 in
theorem cl6 (s t d h i : Int) (w : World) : Calls Try.prog 20 #[.agg #[.int .i64 6, .int .i64 s, .int .i64 t, .int .i64 d, .int .i64 h, .int .u32 i]] w fun e w' => e = .returned (.int .i64 1) ∧ Below w.heap.size w w' := by
  go_enter Try.func20, Try.ntmps20
  go_wp2_with fail
  refine (isk_any 6 _).mono ?_
  rintro e w1 ⟨rfl, rfl⟩
  rw [show isK 6 = true from rfl]
  go_wp2
  go_ret
  exact ⟨rfl, below_new⟩
set_option maxHeartbeats 4000000 in
theorem cl7 (s t d h i : Int) (w : World) : Calls Try.prog 20 #[.agg #[.int .i64 7, .int .i64 s, .int .i64 t, .int .i64 d, .int .i64 h, .int .u32 i]] w fun e w' => e = .returned (.int .i64 3) ∧ Below w.heap.size w w' := by
  go_enter Try.func20, Try.ntmps20
  go_wp2_with fail
  refine (isk_any 7 _).mono ?_
  rintro e w1 ⟨rfl, rfl⟩
  rw [show isK 7 = true from rfl]
  go_wp2
  go_ret
  exact ⟨rfl, below_new⟩
set_option maxHeartbeats 4000000 in
theorem cl8 (s t d h i : Int) (w : World) : Calls Try.prog 20 #[.agg #[.int .i64 8, .int .i64 s, .int .i64 t, .int .i64 d, .int .i64 h, .int .u32 i]] w fun e w' => e = .returned (.int .i64 3) ∧ Below w.heap.size w w' := by
  go_enter Try.func20, Try.ntmps20
  go_wp2_with fail
  refine (isk_any 8 _).mono ?_
  rintro e w1 ⟨rfl, rfl⟩
  rw [show isK 8 = true from rfl]
  go_wp2
  go_ret
  exact ⟨rfl, below_new⟩
set_option maxHeartbeats 4000000 in
theorem cl9 (s t d h i : Int) (w : World) : Calls Try.prog 20 #[.agg #[.int .i64 9, .int .i64 s, .int .i64 t, .int .i64 d, .int .i64 h, .int .u32 i]] w fun e w' => e = .returned (.int .i64 1) ∧ Below w.heap.size w w' := by
  go_enter Try.func20, Try.ntmps20
  go_wp2_with fail
  refine (isk_any 9 _).mono ?_
  rintro e w1 ⟨rfl, rfl⟩
  rw [show isK 9 = true from rfl]
  go_wp2
  go_ret
  exact ⟨rfl, below_new⟩
set_option maxHeartbeats 4000000 in
theorem cl10 (s t d h i : Int) (w : World) : Calls Try.prog 20 #[.agg #[.int .i64 10, .int .i64 s, .int .i64 t, .int .i64 d, .int .i64 h, .int .u32 i]] w fun e w' => e = .returned (.int .i64 1) ∧ Below w.heap.size w w' := by
  go_enter Try.func20, Try.ntmps20
  go_wp2_with fail
  refine (isk_any 10 _).mono ?_
  rintro e w1 ⟨rfl, rfl⟩
  rw [show isK 10 = true from rfl]
  go_wp2
  go_ret
  exact ⟨rfl, below_new⟩
set_option maxHeartbeats 4000000 in
theorem cl11 (s t d h i : Int) (w : World) : Calls Try.prog 20 #[.agg #[.int .i64 11, .int .i64 s, .int .i64 t, .int .i64 d, .int .i64 h, .int .u32 i]] w fun e w' => e = .returned (.int .i64 6) ∧ Below w.heap.size w w' := by
  go_enter Try.func20, Try.ntmps20
  go_wp2_with fail
  refine (isk_any 11 _).mono ?_
  rintro e w1 ⟨rfl, rfl⟩
  rw [show isK 11 = true from rfl]
  go_wp2
  go_ret
  exact ⟨rfl, below_new⟩
set_option maxHeartbeats 4000000 in
theorem cl12 (s t d h i : Int) (w : World) : Calls Try.prog 20 #[.agg #[.int .i64 12, .int .i64 s, .int .i64 t, .int .i64 d, .int .i64 h, .int .u32 i]] w fun e w' => e = .returned (.int .i64 6) ∧ Below w.heap.size w w' := by
  go_enter Try.func20, Try.ntmps20
  go_wp2_with fail
  refine (isk_any 12 _).mono ?_
  rintro e w1 ⟨rfl, rfl⟩
  rw [show isK 12 = true from rfl]
  go_wp2
  go_ret
  exact ⟨rfl, below_new⟩
set_option maxHeartbeats 4000000 in
theorem cl13 (s t d h i : Int) (w : World) : Calls Try.prog 20 #[.agg #[.int .i64 13, .int .i64 s, .int .i64 t, .int .i64 d, .int .i64 h, .int .u32 i]] w fun e w' => e = .returned (.int .i64 1) ∧ Below w.heap.size w w' := by
  go_enter Try.func20, Try.ntmps20
  go_wp2_with fail
  refine (isk_any 13 _).mono ?_
  rintro e w1 ⟨rfl, rfl⟩
  rw [show isK 13 = true from rfl]
  go_wp2
  go_ret
  exact ⟨rfl, below_new⟩
set_option maxHeartbeats 4000000 in
theorem cl14 (s t d h i : Int) (w : World) : Calls Try.prog 20 #[.agg #[.int .i64 14, .int .i64 s, .int .i64 t, .int .i64 d, .int .i64 h, .int .u32 i]] w fun e w' => e = .returned (.int .i64 1) ∧ Below w.heap.size w w' := by
  go_enter Try.func20, Try.ntmps20
  go_wp2_with fail
  refine (isk_any 14 _).mono ?_
  rintro e w1 ⟨rfl, rfl⟩
  rw [show isK 14 = true from rfl]
  go_wp2
  go_ret
  exact ⟨rfl, below_new⟩
set_option maxHeartbeats 4000000 in
theorem cl15 (s t d h i : Int) (w : World) : Calls Try.prog 20 #[.agg #[.int .i64 15, .int .i64 s, .int .i64 t, .int .i64 d, .int .i64 h, .int .u32 i]] w fun e w' => e = .returned (.int .i64 1) ∧ Below w.heap.size w w' := by
  go_enter Try.func20, Try.ntmps20
  go_wp2_with fail
  refine (isk_any 15 _).mono ?_
  rintro e w1 ⟨rfl, rfl⟩
  rw [show isK 15 = true from rfl]
  go_wp2
  go_ret
  exact ⟨rfl, below_new⟩
set_option maxHeartbeats 4000000 in
theorem cl16 (s t d h i : Int) (w : World) : Calls Try.prog 20 #[.agg #[.int .i64 16, .int .i64 s, .int .i64 t, .int .i64 d, .int .i64 h, .int .u32 i]] w fun e w' => e = .returned (.int .i64 1) ∧ Below w.heap.size w w' := by
  go_enter Try.func20, Try.ntmps20
  go_wp2_with fail
  refine (isk_any 16 _).mono ?_
  rintro e w1 ⟨rfl, rfl⟩
  rw [show isK 16 = true from rfl]
  go_wp2
  go_ret
  exact ⟨rfl, below_new⟩
set_option maxHeartbeats 4000000 in
theorem cl17 (s t d h i : Int) (w : World) : Calls Try.prog 20 #[.agg #[.int .i64 17, .int .i64 s, .int .i64 t, .int .i64 d, .int .i64 h, .int .u32 i]] w fun e w' => e = .returned (.int .i64 1) ∧ Below w.heap.size w w' := by
  go_enter Try.func20, Try.ntmps20
  go_wp2_with fail
  refine (isk_any 17 _).mono ?_
  rintro e w1 ⟨rfl, rfl⟩
  rw [show isK 17 = true from rfl]
  go_wp2
  go_ret
  exact ⟨rfl, below_new⟩
set_option maxHeartbeats 4000000 in
theorem cl18 (s t d h i : Int) (w : World) : Calls Try.prog 20 #[.agg #[.int .i64 18, .int .i64 s, .int .i64 t, .int .i64 d, .int .i64 h, .int .u32 i]] w fun e w' => e = .returned (.int .i64 1) ∧ Below w.heap.size w w' := by
  go_enter Try.func20, Try.ntmps20
  go_wp2_with fail
  refine (isk_any 18 _).mono ?_
  rintro e w1 ⟨rfl, rfl⟩
  rw [show isK 18 = true from rfl]
  go_wp2
  go_ret
  exact ⟨rfl, below_new⟩
set_option maxHeartbeats 4000000 in
theorem cl19 (s t d h i : Int) (w : World) : Calls Try.prog 20 #[.agg #[.int .i64 19, .int .i64 s, .int .i64 t, .int .i64 d, .int .i64 h, .int .u32 i]] w fun e w' => e = .returned (.int .i64 1) ∧ Below w.heap.size w w' := by
  go_enter Try.func20, Try.ntmps20
  go_wp2_with fail
  refine (isk_any 19 _).mono ?_
  rintro e w1 ⟨rfl, rfl⟩
  rw [show isK 19 = true from rfl]
  go_wp2
  go_ret
  exact ⟨rfl, below_new⟩
set_option maxHeartbeats 4000000 in
theorem cl20 (s t d h i : Int) (w : World) : Calls Try.prog 20 #[.agg #[.int .i64 20, .int .i64 s, .int .i64 t, .int .i64 d, .int .i64 h, .int .u32 i]] w fun e w' => e = .returned (.int .i64 1) ∧ Below w.heap.size w w' := by
  go_enter Try.func20, Try.ntmps20
  go_wp2_with fail
  refine (isk_any 20 _).mono ?_
  rintro e w1 ⟨rfl, rfl⟩
  rw [show isK 20 = true from rfl]
  go_wp2
  go_ret
  exact ⟨rfl, below_new⟩
set_option maxHeartbeats 4000000 in
theorem cl21 (s t d h i : Int) (w : World) : Calls Try.prog 20 #[.agg #[.int .i64 21, .int .i64 s, .int .i64 t, .int .i64 d, .int .i64 h, .int .u32 i]] w fun e w' => e = .returned (.int .i64 1) ∧ Below w.heap.size w w' := by
  go_enter Try.func20, Try.ntmps20
  go_wp2_with fail
  refine (isk_any 21 _).mono ?_
  rintro e w1 ⟨rfl, rfl⟩
  rw [show isK 21 = true from rfl]
  go_wp2
  go_ret
  exact ⟨rfl, below_new⟩
set_option maxHeartbeats 4000000 in
theorem cl22 (s t d h i : Int) (w : World) : Calls Try.prog 20 #[.agg #[.int .i64 22, .int .i64 s, .int .i64 t, .int .i64 d, .int .i64 h, .int .u32 i]] w fun e w' => e = .returned (.int .i64 2) ∧ Below w.heap.size w w' := by
  go_enter Try.func20, Try.ntmps20
  go_wp2_with fail
  refine (isk_any 22 _).mono ?_
  rintro e w1 ⟨rfl, rfl⟩
  rw [show isK 22 = true from rfl]
  go_wp2
  go_ret
  exact ⟨rfl, below_new⟩
set_option maxHeartbeats 4000000 in
theorem cl23 (s t d h i : Int) (w : World) : Calls Try.prog 20 #[.agg #[.int .i64 23, .int .i64 s, .int .i64 t, .int .i64 d, .int .i64 h, .int .u32 i]] w fun e w' => e = .returned (.int .i64 1) ∧ Below w.heap.size w w' := by
  go_enter Try.func20, Try.ntmps20
  go_wp2_with fail
  refine (isk_any 23 _).mono ?_
  rintro e w1 ⟨rfl, rfl⟩
  rw [show isK 23 = true from rfl]
  go_wp2
  go_ret
  exact ⟨rfl, below_new⟩
set_option maxHeartbeats 4000000 in
theorem cl24 (s t d h i : Int) (w : World) : Calls Try.prog 20 #[.agg #[.int .i64 24, .int .i64 s, .int .i64 t, .int .i64 d, .int .i64 h, .int .u32 i]] w fun e w' => e = .returned (.int .i64 2) ∧ Below w.heap.size w w' := by
  go_enter Try.func20, Try.ntmps20
  go_wp2_with fail
  refine (isk_any 24 _).mono ?_
  rintro e w1 ⟨rfl, rfl⟩
  rw [show isK 24 = true from rfl]
  go_wp2
  go_ret
  exact ⟨rfl, below_new⟩
set_option maxHeartbeats 4000000 in
theorem cl25 (s t d h i : Int) (w : World) : Calls Try.prog 20 #[.agg #[.int .i64 25, .int .i64 s, .int .i64 t, .int .i64 d, .int .i64 h, .int .u32 i]] w fun e w' => e = .returned (.int .i64 1) ∧ Below w.heap.size w w' := by
  go_enter Try.func20, Try.ntmps20
  go_wp2_with fail
  refine (isk_any 25 _).mono ?_
  rintro e w1 ⟨rfl, rfl⟩
  rw [show isK 25 = true from rfl]
  go_wp2
  go_ret
  exact ⟨rfl, below_new⟩
set_option maxHeartbeats 4000000 in
theorem cl26 (s t d h i : Int) (w : World) : Calls Try.prog 20 #[.agg #[.int .i64 26, .int .i64 s, .int .i64 t, .int .i64 d, .int .i64 h, .int .u32 i]] w fun e w' => e = .returned (.int .i64 1) ∧ Below w.heap.size w w' := by
  go_enter Try.func20, Try.ntmps20
  go_wp2_with fail
  refine (isk_any 26 _).mono ?_
  rintro e w1 ⟨rfl, rfl⟩
  rw [show isK 26 = true from rfl]
  go_wp2
  go_ret
  exact ⟨rfl, below_new⟩
set_option maxHeartbeats 4000000 in
theorem cl27 (s t d h i : Int) (w : World) : Calls Try.prog 20 #[.agg #[.int .i64 27, .int .i64 s, .int .i64 t, .int .i64 d, .int .i64 h, .int .u32 i]] w fun e w' => e = .returned (.int .i64 1) ∧ Below w.heap.size w w' := by
  go_enter Try.func20, Try.ntmps20
  go_wp2_with fail
  refine (isk_any 27 _).mono ?_
  rintro e w1 ⟨rfl, rfl⟩
  rw [show isK 27 = true from rfl]
  go_wp2
  go_ret
  exact ⟨rfl, below_new⟩
set_option maxHeartbeats 4000000 in
theorem cl28 (s t d h i : Int) (w : World) : Calls Try.prog 20 #[.agg #[.int .i64 28, .int .i64 s, .int .i64 t, .int .i64 d, .int .i64 h, .int .u32 i]] w fun e w' => e = .returned (.int .i64 1) ∧ Below w.heap.size w w' := by
  go_enter Try.func20, Try.ntmps20
  go_wp2_with fail
  refine (isk_any 28 _).mono ?_
  rintro e w1 ⟨rfl, rfl⟩
  rw [show isK 28 = true from rfl]
  go_wp2
  go_ret
  exact ⟨rfl, below_new⟩
set_option maxHeartbeats 4000000 in
theorem cl29 (s t d h i : Int) (w : World) : Calls Try.prog 20 #[.agg #[.int .i64 29, .int .i64 s, .int .i64 t, .int .i64 d, .int .i64 h, .int .u32 i]] w fun e w' => e = .returned (.int .i64 1) ∧ Below w.heap.size w w' := by
  go_enter Try.func20, Try.ntmps20
  go_wp2_with fail
  refine (isk_any 29 _).mono ?_
  rintro e w1 ⟨rfl, rfl⟩
  rw [show isK 29 = true from rfl]
  go_wp2
  go_ret
  exact ⟨rfl, below_new⟩
set_option maxHeartbeats 4000000 in
theorem cl30 (s t d h i : Int) (w : World) : Calls Try.prog 20 #[.agg #[.int .i64 30, .int .i64 s, .int .i64 t, .int .i64 d, .int .i64 h, .int .u32 i]] w fun e w' => e = .returned (.int .i64 1) ∧ Below w.heap.size w w' := by
  go_enter Try.func20, Try.ntmps20
  go_wp2_with fail
  refine (isk_any 30 _).mono ?_
  rintro e w1 ⟨rfl, rfl⟩
  rw [show isK 30 = true from rfl]
  go_wp2
  go_ret
  exact ⟨rfl, below_new⟩
set_option maxHeartbeats 4000000 in
theorem cl31 (s t d h i : Int) (w : World) : Calls Try.prog 20 #[.agg #[.int .i64 31, .int .i64 s, .int .i64 t, .int .i64 d, .int .i64 h, .int .u32 i]] w fun e w' => e = .returned (.int .i64 1) ∧ Below w.heap.size w w' := by
  go_enter Try.func20, Try.ntmps20
  go_wp2_with fail
  refine (isk_any 31 _).mono ?_
  rintro e w1 ⟨rfl, rfl⟩
  rw [show isK 31 = true from rfl]
  go_wp2
  go_ret
  exact ⟨rfl, below_new⟩
set_option maxHeartbeats 4000000 in
theorem cl32 (s t d h i : Int) (w : World) : Calls Try.prog 20 #[.agg #[.int .i64 32, .int .i64 s, .int .i64 t, .int .i64 d, .int .i64 h, .int .u32 i]] w fun e w' => e = .returned (.int .i64 2) ∧ Below w.heap.size w w' := by
  go_enter Try.func20, Try.ntmps20
  go_wp2_with fail
  refine (isk_any 32 _).mono ?_
  rintro e w1 ⟨rfl, rfl⟩
  rw [show isK 32 = true from rfl]
  go_wp2
  go_ret
  exact ⟨rfl, below_new⟩
set_option maxHeartbeats 4000000 in
theorem cl33 (s t d h i : Int) (w : World) : Calls Try.prog 20 #[.agg #[.int .i64 33, .int .i64 s, .int .i64 t, .int .i64 d, .int .i64 h, .int .u32 i]] w fun e w' => e = .returned (.int .i64 2) ∧ Below w.heap.size w w' := by
  go_enter Try.func20, Try.ntmps20
  go_wp2_with fail
  refine (isk_any 33 _).mono ?_
  rintro e w1 ⟨rfl, rfl⟩
  rw [show isK 33 = true from rfl]
  go_wp2
  go_ret
  exact ⟨rfl, below_new⟩
set_option maxHeartbeats 4000000 in
theorem cl34 (s t d h i : Int) (w : World) : Calls Try.prog 20 #[.agg #[.int .i64 34, .int .i64 s, .int .i64 t, .int .i64 d, .int .i64 h, .int .u32 i]] w fun e w' => e = .returned (.int .i64 2) ∧ Below w.heap.size w w' := by
  go_enter Try.func20, Try.ntmps20
  go_wp2_with fail
  refine (isk_any 34 _).mono ?_
  rintro e w1 ⟨rfl, rfl⟩
  rw [show isK 34 = true from rfl]
  go_wp2
  go_ret
  exact ⟨rfl, below_new⟩
set_option maxHeartbeats 4000000 in
theorem cl35 (s t d h i : Int) (w : World) : Calls Try.prog 20 #[.agg #[.int .i64 35, .int .i64 s, .int .i64 t, .int .i64 d, .int .i64 h, .int .u32 i]] w fun e w' => e = .returned (.int .i64 2) ∧ Below w.heap.size w w' := by
  go_enter Try.func20, Try.ntmps20
  go_wp2_with fail
  refine (isk_any 35 _).mono ?_
  rintro e w1 ⟨rfl, rfl⟩
  rw [show isK 35 = true from rfl]
  go_wp2
  go_ret
  exact ⟨rfl, below_new⟩
set_option maxHeartbeats 4000000 in
theorem cl36 (s t d h i : Int) (w : World) : Calls Try.prog 20 #[.agg #[.int .i64 36, .int .i64 s, .int .i64 t, .int .i64 d, .int .i64 h, .int .u32 i]] w fun e w' => e = .returned (.int .i64 3) ∧ Below w.heap.size w w' := by
  go_enter Try.func20, Try.ntmps20
  go_wp2_with fail
  refine (isk_any 36 _).mono ?_
  rintro e w1 ⟨rfl, rfl⟩
  rw [show isK 36 = true from rfl]
  go_wp2
  go_ret
  exact ⟨rfl, below_new⟩
set_option maxHeartbeats 4000000 in
theorem cl37 (s t d h i : Int) (w : World) : Calls Try.prog 20 #[.agg #[.int .i64 37, .int .i64 s, .int .i64 t, .int .i64 d, .int .i64 h, .int .u32 i]] w fun e w' => e = .returned (.int .i64 3) ∧ Below w.heap.size w w' := by
  go_enter Try.func20, Try.ntmps20
  go_wp2_with fail
  refine (isk_any 37 _).mono ?_
  rintro e w1 ⟨rfl, rfl⟩
  rw [show isK 37 = true from rfl]
  go_wp2
  go_ret
  exact ⟨rfl, below_new⟩
set_option maxHeartbeats 4000000 in
theorem cl38 (s t d h i : Int) (w : World) : Calls Try.prog 20 #[.agg #[.int .i64 38, .int .i64 s, .int .i64 t, .int .i64 d, .int .i64 h, .int .u32 i]] w fun e w' => e = .returned (.int .i64 3) ∧ Below w.heap.size w w' := by
  go_enter Try.func20, Try.ntmps20
  go_wp2_with fail
  refine (isk_any 38 _).mono ?_
  rintro e w1 ⟨rfl, rfl⟩
  rw [show isK 38 = true from rfl]
  go_wp2
  go_ret
  exact ⟨rfl, below_new⟩
set_option maxHeartbeats 4000000 in
theorem cl39 (s t d h i : Int) (w : World) : Calls Try.prog 20 #[.agg #[.int .i64 39, .int .i64 s, .int .i64 t, .int .i64 d, .int .i64 h, .int .u32 i]] w fun e w' => e = .returned (.int .i64 3) ∧ Below w.heap.size w w' := by
  go_enter Try.func20, Try.ntmps20
  go_wp2_with fail
  refine (isk_any 39 _).mono ?_
  rintro e w1 ⟨rfl, rfl⟩
  rw [show isK 39 = true from rfl]
  go_wp2
  go_ret
  exact ⟨rfl, below_new⟩
end Go.Proofs.Ytmjlbffphaklgaa
