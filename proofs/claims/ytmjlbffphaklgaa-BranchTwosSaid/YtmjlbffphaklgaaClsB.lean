/-
  Function Class of package decode, at each Kind.
-/
import Derived.Test.YtmjlbffphaklgaaBrK
namespace Go.Proofs.Ytmjlbffphaklgaa
open Go.RowKit
set_option linter.unusedVariables false

set_option maxHeartbeats 4000000 in
theorem cl40 (s t d h i : Int) (w : World) : Calls Try.prog 20 #[.agg #[.int .i64 40, .int .i64 s, .int .i64 t, .int .i64 d, .int .i64 h, .int .u32 i]] w fun e w' => e = .returned (.int .i64 3) ∧ Below w.heap.size w w' := by
  go_enter Try.func20, Try.ntmps20
  go_wp2_with fail
  refine (isk_any 40 _).mono ?_
  rintro e w1 ⟨rfl, rfl⟩
  rw [show isK 40 = true from rfl]
  go_wp2
  go_ret
  exact ⟨rfl, below_new⟩
set_option maxHeartbeats 4000000 in
theorem cl41 (s t d h i : Int) (w : World) : Calls Try.prog 20 #[.agg #[.int .i64 41, .int .i64 s, .int .i64 t, .int .i64 d, .int .i64 h, .int .u32 i]] w fun e w' => e = .returned (.int .i64 3) ∧ Below w.heap.size w w' := by
  go_enter Try.func20, Try.ntmps20
  go_wp2_with fail
  refine (isk_any 41 _).mono ?_
  rintro e w1 ⟨rfl, rfl⟩
  rw [show isK 41 = true from rfl]
  go_wp2
  go_ret
  exact ⟨rfl, below_new⟩
set_option maxHeartbeats 4000000 in
theorem cl42 (s t d h i : Int) (w : World) : Calls Try.prog 20 #[.agg #[.int .i64 42, .int .i64 s, .int .i64 t, .int .i64 d, .int .i64 h, .int .u32 i]] w fun e w' => e = .returned (.int .i64 3) ∧ Below w.heap.size w w' := by
  go_enter Try.func20, Try.ntmps20
  go_wp2_with fail
  refine (isk_any 42 _).mono ?_
  rintro e w1 ⟨rfl, rfl⟩
  rw [show isK 42 = true from rfl]
  go_wp2
  go_ret
  exact ⟨rfl, below_new⟩
set_option maxHeartbeats 4000000 in
theorem cl43 (s t d h i : Int) (w : World) : Calls Try.prog 20 #[.agg #[.int .i64 43, .int .i64 s, .int .i64 t, .int .i64 d, .int .i64 h, .int .u32 i]] w fun e w' => e = .returned (.int .i64 3) ∧ Below w.heap.size w w' := by
  go_enter Try.func20, Try.ntmps20
  go_wp2_with fail
  refine (isk_any 43 _).mono ?_
  rintro e w1 ⟨rfl, rfl⟩
  rw [show isK 43 = true from rfl]
  go_wp2
  go_ret
  exact ⟨rfl, below_new⟩
set_option maxHeartbeats 4000000 in
theorem cl44 (s t d h i : Int) (w : World) : Calls Try.prog 20 #[.agg #[.int .i64 44, .int .i64 s, .int .i64 t, .int .i64 d, .int .i64 h, .int .u32 i]] w fun e w' => e = .returned (.int .i64 3) ∧ Below w.heap.size w w' := by
  go_enter Try.func20, Try.ntmps20
  go_wp2_with fail
  refine (isk_any 44 _).mono ?_
  rintro e w1 ⟨rfl, rfl⟩
  rw [show isK 44 = true from rfl]
  go_wp2
  go_ret
  exact ⟨rfl, below_new⟩
set_option maxHeartbeats 4000000 in
theorem cl45 (s t d h i : Int) (w : World) : Calls Try.prog 20 #[.agg #[.int .i64 45, .int .i64 s, .int .i64 t, .int .i64 d, .int .i64 h, .int .u32 i]] w fun e w' => e = .returned (.int .i64 3) ∧ Below w.heap.size w w' := by
  go_enter Try.func20, Try.ntmps20
  go_wp2_with fail
  refine (isk_any 45 _).mono ?_
  rintro e w1 ⟨rfl, rfl⟩
  rw [show isK 45 = true from rfl]
  go_wp2
  go_ret
  exact ⟨rfl, below_new⟩
set_option maxHeartbeats 4000000 in
theorem cl46 (s t d h i : Int) (w : World) : Calls Try.prog 20 #[.agg #[.int .i64 46, .int .i64 s, .int .i64 t, .int .i64 d, .int .i64 h, .int .u32 i]] w fun e w' => e = .returned (.int .i64 2) ∧ Below w.heap.size w w' := by
  go_enter Try.func20, Try.ntmps20
  go_wp2_with fail
  refine (isk_any 46 _).mono ?_
  rintro e w1 ⟨rfl, rfl⟩
  rw [show isK 46 = true from rfl]
  go_wp2
  go_ret
  exact ⟨rfl, below_new⟩
set_option maxHeartbeats 4000000 in
theorem cl47 (s t d h i : Int) (w : World) : Calls Try.prog 20 #[.agg #[.int .i64 47, .int .i64 s, .int .i64 t, .int .i64 d, .int .i64 h, .int .u32 i]] w fun e w' => e = .returned (.int .i64 1) ∧ Below w.heap.size w w' := by
  go_enter Try.func20, Try.ntmps20
  go_wp2_with fail
  refine (isk_any 47 _).mono ?_
  rintro e w1 ⟨rfl, rfl⟩
  rw [show isK 47 = true from rfl]
  go_wp2
  go_ret
  exact ⟨rfl, below_new⟩
set_option maxHeartbeats 4000000 in
theorem cl48 (s t d h i : Int) (w : World) : Calls Try.prog 20 #[.agg #[.int .i64 48, .int .i64 s, .int .i64 t, .int .i64 d, .int .i64 h, .int .u32 i]] w fun e w' => e = .returned (.int .i64 1) ∧ Below w.heap.size w w' := by
  go_enter Try.func20, Try.ntmps20
  go_wp2_with fail
  refine (isk_any 48 _).mono ?_
  rintro e w1 ⟨rfl, rfl⟩
  rw [show isK 48 = true from rfl]
  go_wp2
  go_ret
  exact ⟨rfl, below_new⟩
set_option maxHeartbeats 4000000 in
theorem cl49 (s t d h i : Int) (w : World) : Calls Try.prog 20 #[.agg #[.int .i64 49, .int .i64 s, .int .i64 t, .int .i64 d, .int .i64 h, .int .u32 i]] w fun e w' => e = .returned (.int .i64 1) ∧ Below w.heap.size w w' := by
  go_enter Try.func20, Try.ntmps20
  go_wp2_with fail
  refine (isk_any 49 _).mono ?_
  rintro e w1 ⟨rfl, rfl⟩
  rw [show isK 49 = true from rfl]
  go_wp2
  go_ret
  exact ⟨rfl, below_new⟩
set_option maxHeartbeats 4000000 in
theorem cl50 (s t d h i : Int) (w : World) : Calls Try.prog 20 #[.agg #[.int .i64 50, .int .i64 s, .int .i64 t, .int .i64 d, .int .i64 h, .int .u32 i]] w fun e w' => e = .returned (.int .i64 1) ∧ Below w.heap.size w w' := by
  go_enter Try.func20, Try.ntmps20
  go_wp2_with fail
  refine (isk_any 50 _).mono ?_
  rintro e w1 ⟨rfl, rfl⟩
  rw [show isK 50 = true from rfl]
  go_wp2
  go_ret
  exact ⟨rfl, below_new⟩
set_option maxHeartbeats 4000000 in
theorem cl51 (s t d h i : Int) (w : World) : Calls Try.prog 20 #[.agg #[.int .i64 51, .int .i64 s, .int .i64 t, .int .i64 d, .int .i64 h, .int .u32 i]] w fun e w' => e = .returned (.int .i64 1) ∧ Below w.heap.size w w' := by
  go_enter Try.func20, Try.ntmps20
  go_wp2_with fail
  refine (isk_any 51 _).mono ?_
  rintro e w1 ⟨rfl, rfl⟩
  rw [show isK 51 = true from rfl]
  go_wp2
  go_ret
  exact ⟨rfl, below_new⟩
set_option maxHeartbeats 4000000 in
theorem cl52 (s t d h i : Int) (w : World) : Calls Try.prog 20 #[.agg #[.int .i64 52, .int .i64 s, .int .i64 t, .int .i64 d, .int .i64 h, .int .u32 i]] w fun e w' => e = .returned (.int .i64 1) ∧ Below w.heap.size w w' := by
  go_enter Try.func20, Try.ntmps20
  go_wp2_with fail
  refine (isk_any 52 _).mono ?_
  rintro e w1 ⟨rfl, rfl⟩
  rw [show isK 52 = true from rfl]
  go_wp2
  go_ret
  exact ⟨rfl, below_new⟩
set_option maxHeartbeats 4000000 in
theorem cl53 (s t d h i : Int) (w : World) : Calls Try.prog 20 #[.agg #[.int .i64 53, .int .i64 s, .int .i64 t, .int .i64 d, .int .i64 h, .int .u32 i]] w fun e w' => e = .returned (.int .i64 1) ∧ Below w.heap.size w w' := by
  go_enter Try.func20, Try.ntmps20
  go_wp2_with fail
  refine (isk_any 53 _).mono ?_
  rintro e w1 ⟨rfl, rfl⟩
  rw [show isK 53 = true from rfl]
  go_wp2
  go_ret
  exact ⟨rfl, below_new⟩
set_option maxHeartbeats 4000000 in
theorem cl54 (s t d h i : Int) (w : World) : Calls Try.prog 20 #[.agg #[.int .i64 54, .int .i64 s, .int .i64 t, .int .i64 d, .int .i64 h, .int .u32 i]] w fun e w' => e = .returned (.int .i64 6) ∧ Below w.heap.size w w' := by
  go_enter Try.func20, Try.ntmps20
  go_wp2_with fail
  refine (isk_any 54 _).mono ?_
  rintro e w1 ⟨rfl, rfl⟩
  rw [show isK 54 = true from rfl]
  go_wp2
  go_ret
  exact ⟨rfl, below_new⟩
set_option maxHeartbeats 4000000 in
theorem cl55 (s t d h i : Int) (w : World) : Calls Try.prog 20 #[.agg #[.int .i64 55, .int .i64 s, .int .i64 t, .int .i64 d, .int .i64 h, .int .u32 i]] w fun e w' => e = .returned (.int .i64 6) ∧ Below w.heap.size w w' := by
  go_enter Try.func20, Try.ntmps20
  go_wp2_with fail
  refine (isk_any 55 _).mono ?_
  rintro e w1 ⟨rfl, rfl⟩
  rw [show isK 55 = true from rfl]
  go_wp2
  go_ret
  exact ⟨rfl, below_new⟩
set_option maxHeartbeats 4000000 in
theorem cl56 (s t d h i : Int) (w : World) : Calls Try.prog 20 #[.agg #[.int .i64 56, .int .i64 s, .int .i64 t, .int .i64 d, .int .i64 h, .int .u32 i]] w fun e w' => e = .returned (.int .i64 6) ∧ Below w.heap.size w w' := by
  go_enter Try.func20, Try.ntmps20
  go_wp2_with fail
  refine (isk_any 56 _).mono ?_
  rintro e w1 ⟨rfl, rfl⟩
  rw [show isK 56 = true from rfl]
  go_wp2
  go_ret
  exact ⟨rfl, below_new⟩
set_option maxHeartbeats 4000000 in
theorem cl57 (s t d h i : Int) (w : World) : Calls Try.prog 20 #[.agg #[.int .i64 57, .int .i64 s, .int .i64 t, .int .i64 d, .int .i64 h, .int .u32 i]] w fun e w' => e = .returned (.int .i64 6) ∧ Below w.heap.size w w' := by
  go_enter Try.func20, Try.ntmps20
  go_wp2_with fail
  refine (isk_any 57 _).mono ?_
  rintro e w1 ⟨rfl, rfl⟩
  rw [show isK 57 = true from rfl]
  go_wp2
  go_ret
  exact ⟨rfl, below_new⟩
set_option maxHeartbeats 4000000 in
theorem cl58 (s t d h i : Int) (w : World) : Calls Try.prog 20 #[.agg #[.int .i64 58, .int .i64 s, .int .i64 t, .int .i64 d, .int .i64 h, .int .u32 i]] w fun e w' => e = .returned (.int .i64 6) ∧ Below w.heap.size w w' := by
  go_enter Try.func20, Try.ntmps20
  go_wp2_with fail
  refine (isk_any 58 _).mono ?_
  rintro e w1 ⟨rfl, rfl⟩
  rw [show isK 58 = true from rfl]
  go_wp2
  go_ret
  exact ⟨rfl, below_new⟩
set_option maxHeartbeats 4000000 in
theorem cl59 (s t d h i : Int) (w : World) : Calls Try.prog 20 #[.agg #[.int .i64 59, .int .i64 s, .int .i64 t, .int .i64 d, .int .i64 h, .int .u32 i]] w fun e w' => e = .returned (.int .i64 6) ∧ Below w.heap.size w w' := by
  go_enter Try.func20, Try.ntmps20
  go_wp2_with fail
  refine (isk_any 59 _).mono ?_
  rintro e w1 ⟨rfl, rfl⟩
  rw [show isK 59 = true from rfl]
  go_wp2
  go_ret
  exact ⟨rfl, below_new⟩
set_option maxHeartbeats 4000000 in
theorem cl60 (s t d h i : Int) (w : World) : Calls Try.prog 20 #[.agg #[.int .i64 60, .int .i64 s, .int .i64 t, .int .i64 d, .int .i64 h, .int .u32 i]] w fun e w' => e = .returned (.int .i64 6) ∧ Below w.heap.size w w' := by
  go_enter Try.func20, Try.ntmps20
  go_wp2_with fail
  refine (isk_any 60 _).mono ?_
  rintro e w1 ⟨rfl, rfl⟩
  rw [show isK 60 = true from rfl]
  go_wp2
  go_ret
  exact ⟨rfl, below_new⟩
set_option maxHeartbeats 4000000 in
theorem cl61 (s t d h i : Int) (w : World) : Calls Try.prog 20 #[.agg #[.int .i64 61, .int .i64 s, .int .i64 t, .int .i64 d, .int .i64 h, .int .u32 i]] w fun e w' => e = .returned (.int .i64 6) ∧ Below w.heap.size w w' := by
  go_enter Try.func20, Try.ntmps20
  go_wp2_with fail
  refine (isk_any 61 _).mono ?_
  rintro e w1 ⟨rfl, rfl⟩
  rw [show isK 61 = true from rfl]
  go_wp2
  go_ret
  exact ⟨rfl, below_new⟩
set_option maxHeartbeats 4000000 in
theorem cl62 (s t d h i : Int) (w : World) : Calls Try.prog 20 #[.agg #[.int .i64 62, .int .i64 s, .int .i64 t, .int .i64 d, .int .i64 h, .int .u32 i]] w fun e w' => e = .returned (.int .i64 6) ∧ Below w.heap.size w w' := by
  go_enter Try.func20, Try.ntmps20
  go_wp2_with fail
  refine (isk_any 62 _).mono ?_
  rintro e w1 ⟨rfl, rfl⟩
  rw [show isK 62 = true from rfl]
  go_wp2
  go_ret
  exact ⟨rfl, below_new⟩
set_option maxHeartbeats 4000000 in
theorem cl63 (s t d h i : Int) (w : World) : Calls Try.prog 20 #[.agg #[.int .i64 63, .int .i64 s, .int .i64 t, .int .i64 d, .int .i64 h, .int .u32 i]] w fun e w' => e = .returned (.int .i64 1) ∧ Below w.heap.size w w' := by
  go_enter Try.func20, Try.ntmps20
  go_wp2_with fail
  refine (isk_any 63 _).mono ?_
  rintro e w1 ⟨rfl, rfl⟩
  rw [show isK 63 = true from rfl]
  go_wp2
  go_ret
  exact ⟨rfl, below_new⟩
set_option maxHeartbeats 4000000 in
theorem cl64 (s t d h i : Int) (w : World) : Calls Try.prog 20 #[.agg #[.int .i64 64, .int .i64 s, .int .i64 t, .int .i64 d, .int .i64 h, .int .u32 i]] w fun e w' => e = .returned (.int .i64 1) ∧ Below w.heap.size w w' := by
  go_enter Try.func20, Try.ntmps20
  go_wp2_with fail
  refine (isk_any 64 _).mono ?_
  rintro e w1 ⟨rfl, rfl⟩
  rw [show isK 64 = true from rfl]
  go_wp2
  go_ret
  exact ⟨rfl, below_new⟩
set_option maxHeartbeats 4000000 in
theorem cl65 (s t d h i : Int) (w : World) : Calls Try.prog 20 #[.agg #[.int .i64 65, .int .i64 s, .int .i64 t, .int .i64 d, .int .i64 h, .int .u32 i]] w fun e w' => e = .returned (.int .i64 1) ∧ Below w.heap.size w w' := by
  go_enter Try.func20, Try.ntmps20
  go_wp2_with fail
  refine (isk_any 65 _).mono ?_
  rintro e w1 ⟨rfl, rfl⟩
  rw [show isK 65 = true from rfl]
  go_wp2
  go_ret
  exact ⟨rfl, below_new⟩
set_option maxHeartbeats 4000000 in
theorem cl66 (s t d h i : Int) (w : World) : Calls Try.prog 20 #[.agg #[.int .i64 66, .int .i64 s, .int .i64 t, .int .i64 d, .int .i64 h, .int .u32 i]] w fun e w' => e = .returned (.int .i64 4) ∧ Below w.heap.size w w' := by
  go_enter Try.func20, Try.ntmps20
  go_wp2_with fail
  refine (isk_any 66 _).mono ?_
  rintro e w1 ⟨rfl, rfl⟩
  rw [show isK 66 = true from rfl]
  go_wp2
  go_ret
  exact ⟨rfl, below_new⟩
set_option maxHeartbeats 4000000 in
theorem cl67 (s t d h i : Int) (w : World) : Calls Try.prog 20 #[.agg #[.int .i64 67, .int .i64 s, .int .i64 t, .int .i64 d, .int .i64 h, .int .u32 i]] w fun e w' => e = .returned (.int .i64 4) ∧ Below w.heap.size w w' := by
  go_enter Try.func20, Try.ntmps20
  go_wp2_with fail
  refine (isk_any 67 _).mono ?_
  rintro e w1 ⟨rfl, rfl⟩
  rw [show isK 67 = true from rfl]
  go_wp2
  go_ret
  exact ⟨rfl, below_new⟩
set_option maxHeartbeats 4000000 in
theorem cl68 (s t d h i : Int) (w : World) : Calls Try.prog 20 #[.agg #[.int .i64 68, .int .i64 s, .int .i64 t, .int .i64 d, .int .i64 h, .int .u32 i]] w fun e w' => e = .returned (.int .i64 4) ∧ Below w.heap.size w w' := by
  go_enter Try.func20, Try.ntmps20
  go_wp2_with fail
  refine (isk_any 68 _).mono ?_
  rintro e w1 ⟨rfl, rfl⟩
  rw [show isK 68 = true from rfl]
  go_wp2
  go_ret
  exact ⟨rfl, below_new⟩
set_option maxHeartbeats 4000000 in
theorem cl69 (s t d h i : Int) (w : World) : Calls Try.prog 20 #[.agg #[.int .i64 69, .int .i64 s, .int .i64 t, .int .i64 d, .int .i64 h, .int .u32 i]] w fun e w' => e = .returned (.int .i64 4) ∧ Below w.heap.size w w' := by
  go_enter Try.func20, Try.ntmps20
  go_wp2_with fail
  refine (isk_any 69 _).mono ?_
  rintro e w1 ⟨rfl, rfl⟩
  rw [show isK 69 = true from rfl]
  go_wp2
  go_ret
  exact ⟨rfl, below_new⟩
set_option maxHeartbeats 4000000 in
theorem cl70 (s t d h i : Int) (w : World) : Calls Try.prog 20 #[.agg #[.int .i64 70, .int .i64 s, .int .i64 t, .int .i64 d, .int .i64 h, .int .u32 i]] w fun e w' => e = .returned (.int .i64 4) ∧ Below w.heap.size w w' := by
  go_enter Try.func20, Try.ntmps20
  go_wp2_with fail
  refine (isk_any 70 _).mono ?_
  rintro e w1 ⟨rfl, rfl⟩
  rw [show isK 70 = true from rfl]
  go_wp2
  go_ret
  exact ⟨rfl, below_new⟩
set_option maxHeartbeats 4000000 in
theorem cl71 (s t d h i : Int) (w : World) : Calls Try.prog 20 #[.agg #[.int .i64 71, .int .i64 s, .int .i64 t, .int .i64 d, .int .i64 h, .int .u32 i]] w fun e w' => e = .returned (.int .i64 5) ∧ Below w.heap.size w w' := by
  go_enter Try.func20, Try.ntmps20
  go_wp2_with fail
  refine (isk_any 71 _).mono ?_
  rintro e w1 ⟨rfl, rfl⟩
  rw [show isK 71 = true from rfl]
  go_wp2
  go_ret
  exact ⟨rfl, below_new⟩
set_option maxHeartbeats 4000000 in
theorem cl72 (s t d h i : Int) (w : World) : Calls Try.prog 20 #[.agg #[.int .i64 72, .int .i64 s, .int .i64 t, .int .i64 d, .int .i64 h, .int .u32 i]] w fun e w' => e = .returned (.int .i64 5) ∧ Below w.heap.size w w' := by
  go_enter Try.func20, Try.ntmps20
  go_wp2_with fail
  refine (isk_any 72 _).mono ?_
  rintro e w1 ⟨rfl, rfl⟩
  rw [show isK 72 = true from rfl]
  go_wp2
  go_ret
  exact ⟨rfl, below_new⟩
set_option maxHeartbeats 4000000 in
theorem cl73 (s t d h i : Int) (w : World) : Calls Try.prog 20 #[.agg #[.int .i64 73, .int .i64 s, .int .i64 t, .int .i64 d, .int .i64 h, .int .u32 i]] w fun e w' => e = .returned (.int .i64 5) ∧ Below w.heap.size w w' := by
  go_enter Try.func20, Try.ntmps20
  go_wp2_with fail
  refine (isk_any 73 _).mono ?_
  rintro e w1 ⟨rfl, rfl⟩
  rw [show isK 73 = true from rfl]
  go_wp2
  go_ret
  exact ⟨rfl, below_new⟩
set_option maxHeartbeats 4000000 in
theorem cl74 (s t d h i : Int) (w : World) : Calls Try.prog 20 #[.agg #[.int .i64 74, .int .i64 s, .int .i64 t, .int .i64 d, .int .i64 h, .int .u32 i]] w fun e w' => e = .returned (.int .i64 4) ∧ Below w.heap.size w w' := by
  go_enter Try.func20, Try.ntmps20
  go_wp2_with fail
  refine (isk_any 74 _).mono ?_
  rintro e w1 ⟨rfl, rfl⟩
  rw [show isK 74 = true from rfl]
  go_wp2
  go_ret
  exact ⟨rfl, below_new⟩
set_option maxHeartbeats 4000000 in
theorem cl75 (s t d h i : Int) (w : World) : Calls Try.prog 20 #[.agg #[.int .i64 75, .int .i64 s, .int .i64 t, .int .i64 d, .int .i64 h, .int .u32 i]] w fun e w' => e = .returned (.int .i64 5) ∧ Below w.heap.size w w' := by
  go_enter Try.func20, Try.ntmps20
  go_wp2_with fail
  refine (isk_any 75 _).mono ?_
  rintro e w1 ⟨rfl, rfl⟩
  rw [show isK 75 = true from rfl]
  go_wp2
  go_ret
  exact ⟨rfl, below_new⟩
set_option maxHeartbeats 4000000 in
theorem cl76 (s t d h i : Int) (w : World) : Calls Try.prog 20 #[.agg #[.int .i64 76, .int .i64 s, .int .i64 t, .int .i64 d, .int .i64 h, .int .u32 i]] w fun e w' => e = .returned (.int .i64 1) ∧ Below w.heap.size w w' := by
  go_enter Try.func20, Try.ntmps20
  go_wp2_with fail
  refine (isk_any 76 _).mono ?_
  rintro e w1 ⟨rfl, rfl⟩
  rw [show isK 76 = true from rfl]
  go_wp2
  go_ret
  exact ⟨rfl, below_new⟩
set_option maxHeartbeats 4000000 in
theorem cl77 (s t d h i : Int) (w : World) : Calls Try.prog 20 #[.agg #[.int .i64 77, .int .i64 s, .int .i64 t, .int .i64 d, .int .i64 h, .int .u32 i]] w fun e w' => e = .returned (.int .i64 1) ∧ Below w.heap.size w w' := by
  go_enter Try.func20, Try.ntmps20
  go_wp2_with fail
  refine (isk_any 77 _).mono ?_
  rintro e w1 ⟨rfl, rfl⟩
  rw [show isK 77 = true from rfl]
  go_wp2
  go_ret
  exact ⟨rfl, below_new⟩
end Go.Proofs.Ytmjlbffphaklgaa
