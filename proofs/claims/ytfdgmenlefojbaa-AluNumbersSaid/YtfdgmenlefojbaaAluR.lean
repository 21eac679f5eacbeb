/-
  Chapter 4: function Do of the document's own answer.
-/
import Derived.Test.YtfdgmenlefojbaaAluL
namespace Go.Proofs.Ytfdgmenlefojbaa
open Go.RowKit
set_option linter.unusedVariables false

set_option maxHeartbeats 1000000 in
theorem rdo1 (a b c h i s t : Int) (w : World) (s0 : 0 ≤ s) (s1 : s < 4294967296) (t0 : 0 ≤ t) (t1 : t < 4294967296) (i0 : 0 ≤ i) (i1 : i < 4294967296) (h0 : -9223372036854775808 ≤ h) (h1 : h ≤ 9223372036854775807) : Calls Try.prog 14 #[.agg #[.int .i64 1, .int .i64 a, .int .i64 b, .int .i64 c, .int .i64 h, .int .u32 i], .int .u32 s, .int .u32 t] w fun e w' => e = .returned (.tuple #[.int .u32 (nv 1 h i s t), .bool true]) ∧ Below w.heap.size w w' := by
  have z := and16 i i0 i1
  have z0 : 0 ≤ i % 65536 := by omega
  have z1 : i % 65536 < 65536 := by omega
  go_enter Try.func14, Try.ntmps14
  go_wp2_with fail
  refine (rsign_any _ _ _ i0 i1).mono ?_
  rintro e w9 ⟨rfl, rfl⟩
  go_wp2_with fail
  refine (shift0 _ _ _ t0 t1).mono ?_
  rintro e w1 ⟨rfl, rfl⟩
  go_wp2
  go_ret2
  exact ⟨ret_nb rfl, below_new⟩
set_option maxHeartbeats 1000000 in
theorem rdo2 (a b c h i s t : Int) (w : World) (s0 : 0 ≤ s) (s1 : s < 4294967296) (t0 : 0 ≤ t) (t1 : t < 4294967296) (i0 : 0 ≤ i) (i1 : i < 4294967296) (h0 : -9223372036854775808 ≤ h) (h1 : h ≤ 9223372036854775807) : Calls Try.prog 14 #[.agg #[.int .i64 2, .int .i64 a, .int .i64 b, .int .i64 c, .int .i64 h, .int .u32 i], .int .u32 s, .int .u32 t] w fun e w' => e = .returned (.tuple #[.int .u32 (nv 2 h i s t), .bool true]) ∧ Below w.heap.size w w' := by
  have z := and16 i i0 i1
  have z0 : 0 ≤ i % 65536 := by omega
  have z1 : i % 65536 < 65536 := by omega
  go_enter Try.func14, Try.ntmps14
  go_wp2_with fail
  refine (rsign_any _ _ _ i0 i1).mono ?_
  rintro e w9 ⟨rfl, rfl⟩
  go_wp2_with fail
  refine (shift1 _ _ _ t0 t1).mono ?_
  rintro e w1 ⟨rfl, rfl⟩
  go_wp2
  go_ret2
  exact ⟨ret_nb rfl, below_new⟩
set_option maxHeartbeats 1000000 in
theorem rdo3 (a b c h i s t : Int) (w : World) (s0 : 0 ≤ s) (s1 : s < 4294967296) (t0 : 0 ≤ t) (t1 : t < 4294967296) (i0 : 0 ≤ i) (i1 : i < 4294967296) (h0 : -9223372036854775808 ≤ h) (h1 : h ≤ 9223372036854775807) : Calls Try.prog 14 #[.agg #[.int .i64 3, .int .i64 a, .int .i64 b, .int .i64 c, .int .i64 h, .int .u32 i], .int .u32 s, .int .u32 t] w fun e w' => e = .returned (.tuple #[.int .u32 (nv 3 h i s t), .bool true]) ∧ Below w.heap.size w w' := by
  have z := and16 i i0 i1
  have z0 : 0 ≤ i % 65536 := by omega
  have z1 : i % 65536 < 65536 := by omega
  go_enter Try.func14, Try.ntmps14
  go_wp2_with fail
  refine (rsign_any _ _ _ i0 i1).mono ?_
  rintro e w9 ⟨rfl, rfl⟩
  go_wp2_with fail
  refine (shift2 _ _ _ t0 t1 h0 h1).mono ?_
  rintro e w1 ⟨rfl, rfl⟩
  go_wp2
  go_ret2
  exact ⟨ret_nb rfl, below_new⟩
set_option maxHeartbeats 1000000 in
theorem rdo4 (a b c h i s t : Int) (w : World) (s0 : 0 ≤ s) (s1 : s < 4294967296) (t0 : 0 ≤ t) (t1 : t < 4294967296) (i0 : 0 ≤ i) (i1 : i < 4294967296) (h0 : -9223372036854775808 ≤ h) (h1 : h ≤ 9223372036854775807) : Calls Try.prog 14 #[.agg #[.int .i64 4, .int .i64 a, .int .i64 b, .int .i64 c, .int .i64 h, .int .u32 i], .int .u32 s, .int .u32 t] w fun e w' => e = .returned (.tuple #[.int .u32 (nv 4 h i s t), .bool true]) ∧ Below w.heap.size w w' := by
  have z := and16 i i0 i1
  have z0 : 0 ≤ i % 65536 := by omega
  have z1 : i % 65536 < 65536 := by omega
  have hr0 : 0 ≤ s % 32 := by omega
  have hr1 : s % 32 < 32 := by omega
  go_enter Try.func14, Try.ntmps14
  go_wp2_with fail
  refine (rsign_any _ _ _ i0 i1).mono ?_
  rintro e w9 ⟨rfl, rfl⟩
  go_wp2_with fail
  refine (shift0 _ _ _ t0 t1).mono ?_
  rintro e w1 ⟨rfl, rfl⟩
  go_wp2
  go_ret2
  exact ⟨ret_nb (by first | rfl | (simp only [nv, W.sar]; rw [show s % 32 % 32 = s % 32 by omega])), below_new⟩
set_option maxHeartbeats 1000000 in
theorem rdo5 (a b c h i s t : Int) (w : World) (s0 : 0 ≤ s) (s1 : s < 4294967296) (t0 : 0 ≤ t) (t1 : t < 4294967296) (i0 : 0 ≤ i) (i1 : i < 4294967296) (h0 : -9223372036854775808 ≤ h) (h1 : h ≤ 9223372036854775807) : Calls Try.prog 14 #[.agg #[.int .i64 5, .int .i64 a, .int .i64 b, .int .i64 c, .int .i64 h, .int .u32 i], .int .u32 s, .int .u32 t] w fun e w' => e = .returned (.tuple #[.int .u32 (nv 5 h i s t), .bool true]) ∧ Below w.heap.size w w' := by
  have z := and16 i i0 i1
  have z0 : 0 ≤ i % 65536 := by omega
  have z1 : i % 65536 < 65536 := by omega
  have hr0 : 0 ≤ s % 32 := by omega
  have hr1 : s % 32 < 32 := by omega
  go_enter Try.func14, Try.ntmps14
  go_wp2_with fail
  refine (rsign_any _ _ _ i0 i1).mono ?_
  rintro e w9 ⟨rfl, rfl⟩
  go_wp2_with fail
  refine (shift1 _ _ _ t0 t1).mono ?_
  rintro e w1 ⟨rfl, rfl⟩
  go_wp2
  go_ret2
  exact ⟨ret_nb (by first | rfl | (simp only [nv, W.sar]; rw [show s % 32 % 32 = s % 32 by omega])), below_new⟩
set_option maxHeartbeats 1000000 in
theorem rdo6 (a b c h i s t : Int) (w : World) (s0 : 0 ≤ s) (s1 : s < 4294967296) (t0 : 0 ≤ t) (t1 : t < 4294967296) (i0 : 0 ≤ i) (i1 : i < 4294967296) (h0 : -9223372036854775808 ≤ h) (h1 : h ≤ 9223372036854775807) : Calls Try.prog 14 #[.agg #[.int .i64 6, .int .i64 a, .int .i64 b, .int .i64 c, .int .i64 h, .int .u32 i], .int .u32 s, .int .u32 t] w fun e w' => e = .returned (.tuple #[.int .u32 (nv 6 h i s t), .bool true]) ∧ Below w.heap.size w w' := by
  have z := and16 i i0 i1
  have z0 : 0 ≤ i % 65536 := by omega
  have z1 : i % 65536 < 65536 := by omega
  have hr0 : 0 ≤ s % 32 := by omega
  have hr1 : s % 32 < 32 := by omega
  go_enter Try.func14, Try.ntmps14
  go_wp2_with fail
  refine (rsign_any _ _ _ i0 i1).mono ?_
  rintro e w9 ⟨rfl, rfl⟩
  go_wp2_with fail
  refine (shift2 _ _ _ t0 t1 (by omega) (by omega)).mono ?_
  rintro e w1 ⟨rfl, rfl⟩
  go_wp2
  go_ret2
  exact ⟨ret_nb (by first | rfl | (simp only [nv, W.sar]; rw [show s % 32 % 32 = s % 32 by omega])), below_new⟩
set_option maxHeartbeats 1000000 in
theorem rdo22 (a b c h i s t : Int) (w : World) (s0 : 0 ≤ s) (s1 : s < 4294967296) (t0 : 0 ≤ t) (t1 : t < 4294967296) (i0 : 0 ≤ i) (i1 : i < 4294967296) (h0 : -9223372036854775808 ≤ h) (h1 : h ≤ 9223372036854775807) : Calls Try.prog 14 #[.agg #[.int .i64 22, .int .i64 a, .int .i64 b, .int .i64 c, .int .i64 h, .int .u32 i], .int .u32 s, .int .u32 t] w fun e w' => e = .returned (.tuple #[.int .u32 (nv 22 h i s t), .bool true]) ∧ Below w.heap.size w w' := by
  have z := and16 i i0 i1
  have z0 : 0 ≤ i % 65536 := by omega
  have z1 : i % 65536 < 65536 := by omega
  go_enter Try.func14, Try.ntmps14
  go_wp2_with fail
  refine (rsign_any _ _ _ i0 i1).mono ?_
  rintro e w9 ⟨rfl, rfl⟩
  go_wp2
  go_ret2
  exact ⟨ret_nb rfl, below_new⟩
set_option maxHeartbeats 1000000 in
theorem rdo23 (a b c h i s t : Int) (w : World) (s0 : 0 ≤ s) (s1 : s < 4294967296) (t0 : 0 ≤ t) (t1 : t < 4294967296) (i0 : 0 ≤ i) (i1 : i < 4294967296) (h0 : -9223372036854775808 ≤ h) (h1 : h ≤ 9223372036854775807) : Calls Try.prog 14 #[.agg #[.int .i64 23, .int .i64 a, .int .i64 b, .int .i64 c, .int .i64 h, .int .u32 i], .int .u32 s, .int .u32 t] w fun e w' => e = .returned (.tuple #[.int .u32 (nv 23 h i s t), .bool true]) ∧ Below w.heap.size w w' := by
  have z := and16 i i0 i1
  have z0 : 0 ≤ i % 65536 := by omega
  have z1 : i % 65536 < 65536 := by omega
  go_enter Try.func14, Try.ntmps14
  go_wp2_with fail
  refine (rsign_any _ _ _ i0 i1).mono ?_
  rintro e w9 ⟨rfl, rfl⟩
  go_wp2
  go_ret2
  exact ⟨ret_nb rfl, below_new⟩
set_option maxHeartbeats 1000000 in
theorem rdo24 (a b c h i s t : Int) (w : World) (s0 : 0 ≤ s) (s1 : s < 4294967296) (t0 : 0 ≤ t) (t1 : t < 4294967296) (i0 : 0 ≤ i) (i1 : i < 4294967296) (h0 : -9223372036854775808 ≤ h) (h1 : h ≤ 9223372036854775807) : Calls Try.prog 14 #[.agg #[.int .i64 24, .int .i64 a, .int .i64 b, .int .i64 c, .int .i64 h, .int .u32 i], .int .u32 s, .int .u32 t] w fun e w' => e = .returned (.tuple #[.int .u32 (nv 24 h i s t), .bool true]) ∧ Below w.heap.size w w' := by
  have z := and16 i i0 i1
  have z0 : 0 ≤ i % 65536 := by omega
  have z1 : i % 65536 < 65536 := by omega
  go_enter Try.func14, Try.ntmps14
  go_wp2_with fail
  refine (rsign_any _ _ _ i0 i1).mono ?_
  rintro e w9 ⟨rfl, rfl⟩
  go_wp2
  go_ret2
  exact ⟨ret_nb rfl, below_new⟩
set_option maxHeartbeats 1000000 in
theorem rdo25 (a b c h i s t : Int) (w : World) (s0 : 0 ≤ s) (s1 : s < 4294967296) (t0 : 0 ≤ t) (t1 : t < 4294967296) (i0 : 0 ≤ i) (i1 : i < 4294967296) (h0 : -9223372036854775808 ≤ h) (h1 : h ≤ 9223372036854775807) : Calls Try.prog 14 #[.agg #[.int .i64 25, .int .i64 a, .int .i64 b, .int .i64 c, .int .i64 h, .int .u32 i], .int .u32 s, .int .u32 t] w fun e w' => e = .returned (.tuple #[.int .u32 (nv 25 h i s t), .bool true]) ∧ Below w.heap.size w w' := by
  have z := and16 i i0 i1
  have z0 : 0 ≤ i % 65536 := by omega
  have z1 : i % 65536 < 65536 := by omega
  go_enter Try.func14, Try.ntmps14
  go_wp2_with fail
  refine (rsign_any _ _ _ i0 i1).mono ?_
  rintro e w9 ⟨rfl, rfl⟩
  go_wp2
  go_ret2
  exact ⟨ret_nb rfl, below_new⟩
set_option maxHeartbeats 1000000 in
theorem rdo26 (a b c h i s t : Int) (w : World) (s0 : 0 ≤ s) (s1 : s < 4294967296) (t0 : 0 ≤ t) (t1 : t < 4294967296) (i0 : 0 ≤ i) (i1 : i < 4294967296) (h0 : -9223372036854775808 ≤ h) (h1 : h ≤ 9223372036854775807) : Calls Try.prog 14 #[.agg #[.int .i64 26, .int .i64 a, .int .i64 b, .int .i64 c, .int .i64 h, .int .u32 i], .int .u32 s, .int .u32 t] w fun e w' => e = .returned (.tuple #[.int .u32 (nv 26 h i s t), .bool true]) ∧ Below w.heap.size w w' := by
  have z := and16 i i0 i1
  have z0 : 0 ≤ i % 65536 := by omega
  have z1 : i % 65536 < 65536 := by omega
  go_enter Try.func14, Try.ntmps14
  go_wp2_with fail
  refine (rsign_any _ _ _ i0 i1).mono ?_
  rintro e w9 ⟨rfl, rfl⟩
  go_wp2
  go_ret2
  exact ⟨ret_nb rfl, below_new⟩
set_option maxHeartbeats 1000000 in
theorem rdo27 (a b c h i s t : Int) (w : World) (s0 : 0 ≤ s) (s1 : s < 4294967296) (t0 : 0 ≤ t) (t1 : t < 4294967296) (i0 : 0 ≤ i) (i1 : i < 4294967296) (h0 : -9223372036854775808 ≤ h) (h1 : h ≤ 9223372036854775807) : Calls Try.prog 14 #[.agg #[.int .i64 27, .int .i64 a, .int .i64 b, .int .i64 c, .int .i64 h, .int .u32 i], .int .u32 s, .int .u32 t] w fun e w' => e = .returned (.tuple #[.int .u32 (nv 27 h i s t), .bool true]) ∧ Below w.heap.size w w' := by
  have z := and16 i i0 i1
  have z0 : 0 ≤ i % 65536 := by omega
  have z1 : i % 65536 < 65536 := by omega
  go_enter Try.func14, Try.ntmps14
  go_wp2_with fail
  refine (rsign_any _ _ _ i0 i1).mono ?_
  rintro e w9 ⟨rfl, rfl⟩
  go_wp2
  go_ret2
  exact ⟨ret_nb rfl, below_new⟩
set_option maxHeartbeats 1000000 in
theorem rdo28 (a b c h i s t : Int) (w : World) (s0 : 0 ≤ s) (s1 : s < 4294967296) (t0 : 0 ≤ t) (t1 : t < 4294967296) (i0 : 0 ≤ i) (i1 : i < 4294967296) (h0 : -9223372036854775808 ≤ h) (h1 : h ≤ 9223372036854775807) : Calls Try.prog 14 #[.agg #[.int .i64 28, .int .i64 a, .int .i64 b, .int .i64 c, .int .i64 h, .int .u32 i], .int .u32 s, .int .u32 t] w fun e w' => e = .returned (.tuple #[.int .u32 (nv 28 h i s t), .bool true]) ∧ Below w.heap.size w w' := by
  have z := and16 i i0 i1
  have z0 : 0 ≤ i % 65536 := by omega
  have z1 : i % 65536 < 65536 := by omega
  go_enter Try.func14, Try.ntmps14
  go_wp2_with fail
  refine (rsign_any _ _ _ i0 i1).mono ?_
  rintro e w9 ⟨rfl, rfl⟩
  go_wp2
  go_ret2
  exact ⟨ret_nb rfl, below_new⟩
set_option maxHeartbeats 1000000 in
theorem rdo29 (a b c h i s t : Int) (w : World) (s0 : 0 ≤ s) (s1 : s < 4294967296) (t0 : 0 ≤ t) (t1 : t < 4294967296) (i0 : 0 ≤ i) (i1 : i < 4294967296) (h0 : -9223372036854775808 ≤ h) (h1 : h ≤ 9223372036854775807) : Calls Try.prog 14 #[.agg #[.int .i64 29, .int .i64 a, .int .i64 b, .int .i64 c, .int .i64 h, .int .u32 i], .int .u32 s, .int .u32 t] w fun e w' => e = .returned (.tuple #[.int .u32 (nv 29 h i s t), .bool true]) ∧ Below w.heap.size w w' := by
  have z := and16 i i0 i1
  have z0 : 0 ≤ i % 65536 := by omega
  have z1 : i % 65536 < 65536 := by omega
  go_enter Try.func14, Try.ntmps14
  go_wp2_with fail
  refine (rsign_any _ _ _ i0 i1).mono ?_
  rintro e w9 ⟨rfl, rfl⟩
  go_wp2
  go_ret2
  exact ⟨ret_nb rfl, below_new⟩
set_option maxHeartbeats 1000000 in
theorem rdo30 (a b c h i s t : Int) (w : World) (s0 : 0 ≤ s) (s1 : s < 4294967296) (t0 : 0 ≤ t) (t1 : t < 4294967296) (i0 : 0 ≤ i) (i1 : i < 4294967296) (h0 : -9223372036854775808 ≤ h) (h1 : h ≤ 9223372036854775807) : Calls Try.prog 14 #[.agg #[.int .i64 30, .int .i64 a, .int .i64 b, .int .i64 c, .int .i64 h, .int .u32 i], .int .u32 s, .int .u32 t] w fun e w' => e = .returned (.tuple #[.int .u32 (nv 30 h i s t), .bool true]) ∧ Below w.heap.size w w' := by
  have z := and16 i i0 i1
  have z0 : 0 ≤ i % 65536 := by omega
  have z1 : i % 65536 < 65536 := by omega
  go_enter Try.func14, Try.ntmps14
  go_wp2_with fail
  refine (rsign_any _ _ _ i0 i1).mono ?_
  rintro e w9 ⟨rfl, rfl⟩
  go_wp2_with fail
  refine (rless_any _ _ _ _ s0 s1 t0 t1).mono ?_
  rintro e w1 ⟨rfl, rfl⟩
  go_wp2_with fail
  refine (rbit_any _ _).mono ?_
  rintro e w2 ⟨rfl, rfl⟩
  go_wp2
  go_ret2
  exact ⟨ret_nb rfl, below_new⟩
set_option maxHeartbeats 1000000 in
theorem rdo31 (a b c h i s t : Int) (w : World) (s0 : 0 ≤ s) (s1 : s < 4294967296) (t0 : 0 ≤ t) (t1 : t < 4294967296) (i0 : 0 ≤ i) (i1 : i < 4294967296) (h0 : -9223372036854775808 ≤ h) (h1 : h ≤ 9223372036854775807) : Calls Try.prog 14 #[.agg #[.int .i64 31, .int .i64 a, .int .i64 b, .int .i64 c, .int .i64 h, .int .u32 i], .int .u32 s, .int .u32 t] w fun e w' => e = .returned (.tuple #[.int .u32 (nv 31 h i s t), .bool true]) ∧ Below w.heap.size w w' := by
  have z := and16 i i0 i1
  have z0 : 0 ≤ i % 65536 := by omega
  have z1 : i % 65536 < 65536 := by omega
  go_enter Try.func14, Try.ntmps14
  go_wp2_with fail
  refine (rsign_any _ _ _ i0 i1).mono ?_
  rintro e w9 ⟨rfl, rfl⟩
  go_wp2_with fail
  refine (rless_any _ _ _ _ s0 s1 t0 t1).mono ?_
  rintro e w1 ⟨rfl, rfl⟩
  go_wp2_with fail
  refine (rbit_any _ _).mono ?_
  rintro e w2 ⟨rfl, rfl⟩
  go_wp2
  go_ret2
  exact ⟨ret_nb rfl, below_new⟩
set_option maxHeartbeats 1000000 in
theorem rdo46 (a b c h i s t : Int) (w : World) (s0 : 0 ≤ s) (s1 : s < 4294967296) (t0 : 0 ≤ t) (t1 : t < 4294967296) (i0 : 0 ≤ i) (i1 : i < 4294967296) (h0 : -9223372036854775808 ≤ h) (h1 : h ≤ 9223372036854775807) : Calls Try.prog 14 #[.agg #[.int .i64 46, .int .i64 a, .int .i64 b, .int .i64 c, .int .i64 h, .int .u32 i], .int .u32 s, .int .u32 t] w fun e w' => e = .returned (.tuple #[.int .u32 (nv 46 h i s t), .bool true]) ∧ Below w.heap.size w w' := by
  have z := and16 i i0 i1
  have z0 : 0 ≤ i % 65536 := by omega
  have z1 : i % 65536 < 65536 := by omega
  obtain ⟨g0, g1⟩ := sg_rng i i0 i1
  go_enter Try.func14, Try.ntmps14
  go_wp2_with fail
  refine (rsign_any _ _ _ i0 i1).mono ?_
  rintro e w9 ⟨rfl, rfl⟩
  go_wp2
  go_ret2
  exact ⟨ret_nb rfl, below_new⟩
set_option maxHeartbeats 1000000 in
theorem rdo47 (a b c h i s t : Int) (w : World) (s0 : 0 ≤ s) (s1 : s < 4294967296) (t0 : 0 ≤ t) (t1 : t < 4294967296) (i0 : 0 ≤ i) (i1 : i < 4294967296) (h0 : -9223372036854775808 ≤ h) (h1 : h ≤ 9223372036854775807) : Calls Try.prog 14 #[.agg #[.int .i64 47, .int .i64 a, .int .i64 b, .int .i64 c, .int .i64 h, .int .u32 i], .int .u32 s, .int .u32 t] w fun e w' => e = .returned (.tuple #[.int .u32 (nv 47 h i s t), .bool true]) ∧ Below w.heap.size w w' := by
  have z := and16 i i0 i1
  have z0 : 0 ≤ i % 65536 := by omega
  have z1 : i % 65536 < 65536 := by omega
  obtain ⟨g0, g1⟩ := sg_rng i i0 i1
  go_enter Try.func14, Try.ntmps14
  go_wp2_with fail
  refine (rsign_any _ _ _ i0 i1).mono ?_
  rintro e w9 ⟨rfl, rfl⟩
  go_wp2
  go_ret2
  exact ⟨ret_nb rfl, below_new⟩
set_option maxHeartbeats 1000000 in
theorem rdo48 (a b c h i s t : Int) (w : World) (s0 : 0 ≤ s) (s1 : s < 4294967296) (t0 : 0 ≤ t) (t1 : t < 4294967296) (i0 : 0 ≤ i) (i1 : i < 4294967296) (h0 : -9223372036854775808 ≤ h) (h1 : h ≤ 9223372036854775807) : Calls Try.prog 14 #[.agg #[.int .i64 48, .int .i64 a, .int .i64 b, .int .i64 c, .int .i64 h, .int .u32 i], .int .u32 s, .int .u32 t] w fun e w' => e = .returned (.tuple #[.int .u32 (nv 48 h i s t), .bool true]) ∧ Below w.heap.size w w' := by
  have z := and16 i i0 i1
  have z0 : 0 ≤ i % 65536 := by omega
  have z1 : i % 65536 < 65536 := by omega
  obtain ⟨g0, g1⟩ := sg_rng i i0 i1
  go_enter Try.func14, Try.ntmps14
  go_wp2_with fail
  refine (rsign_any _ _ _ i0 i1).mono ?_
  rintro e w9 ⟨rfl, rfl⟩
  go_wp2_with fail
  refine (rless_any _ _ _ _ s0 s1 g0 g1).mono ?_
  rintro e w1 ⟨rfl, rfl⟩
  go_wp2_with fail
  refine (rbit_any _ _).mono ?_
  rintro e w2 ⟨rfl, rfl⟩
  go_wp2
  go_ret2
  exact ⟨ret_nb rfl, below_new⟩
set_option maxHeartbeats 1000000 in
theorem rdo49 (a b c h i s t : Int) (w : World) (s0 : 0 ≤ s) (s1 : s < 4294967296) (t0 : 0 ≤ t) (t1 : t < 4294967296) (i0 : 0 ≤ i) (i1 : i < 4294967296) (h0 : -9223372036854775808 ≤ h) (h1 : h ≤ 9223372036854775807) : Calls Try.prog 14 #[.agg #[.int .i64 49, .int .i64 a, .int .i64 b, .int .i64 c, .int .i64 h, .int .u32 i], .int .u32 s, .int .u32 t] w fun e w' => e = .returned (.tuple #[.int .u32 (nv 49 h i s t), .bool true]) ∧ Below w.heap.size w w' := by
  have z := and16 i i0 i1
  have z0 : 0 ≤ i % 65536 := by omega
  have z1 : i % 65536 < 65536 := by omega
  obtain ⟨g0, g1⟩ := sg_rng i i0 i1
  go_enter Try.func14, Try.ntmps14
  go_wp2_with fail
  refine (rsign_any _ _ _ i0 i1).mono ?_
  rintro e w9 ⟨rfl, rfl⟩
  go_wp2_with fail
  refine (rless_any _ _ _ _ s0 s1 g0 g1).mono ?_
  rintro e w1 ⟨rfl, rfl⟩
  go_wp2_with fail
  refine (rbit_any _ _).mono ?_
  rintro e w2 ⟨rfl, rfl⟩
  go_wp2
  go_ret2
  exact ⟨ret_nb rfl, below_new⟩
set_option maxHeartbeats 1000000 in
theorem rdo50 (a b c h i s t : Int) (w : World) (s0 : 0 ≤ s) (s1 : s < 4294967296) (t0 : 0 ≤ t) (t1 : t < 4294967296) (i0 : 0 ≤ i) (i1 : i < 4294967296) (h0 : -9223372036854775808 ≤ h) (h1 : h ≤ 9223372036854775807) (hi : i < 65536) : Calls Try.prog 14 #[.agg #[.int .i64 50, .int .i64 a, .int .i64 b, .int .i64 c, .int .i64 h, .int .u32 i], .int .u32 s, .int .u32 t] w fun e w' => e = .returned (.tuple #[.int .u32 (nv 50 h i s t), .bool true]) ∧ Below w.heap.size w w' := by
  have z := and16 i i0 i1
  rw [Int.emod_eq_of_lt i0 hi] at z
  go_enter Try.func14, Try.ntmps14
  go_wp2_with fail
  refine (rsign_any _ _ _ i0 i1).mono ?_
  rintro e w9 ⟨rfl, rfl⟩
  go_wp2
  go_ret2
  exact ⟨ret_nb rfl, below_new⟩
set_option maxHeartbeats 1000000 in
theorem rdo51 (a b c h i s t : Int) (w : World) (s0 : 0 ≤ s) (s1 : s < 4294967296) (t0 : 0 ≤ t) (t1 : t < 4294967296) (i0 : 0 ≤ i) (i1 : i < 4294967296) (h0 : -9223372036854775808 ≤ h) (h1 : h ≤ 9223372036854775807) (hi : i < 65536) : Calls Try.prog 14 #[.agg #[.int .i64 51, .int .i64 a, .int .i64 b, .int .i64 c, .int .i64 h, .int .u32 i], .int .u32 s, .int .u32 t] w fun e w' => e = .returned (.tuple #[.int .u32 (nv 51 h i s t), .bool true]) ∧ Below w.heap.size w w' := by
  have z := and16 i i0 i1
  rw [Int.emod_eq_of_lt i0 hi] at z
  go_enter Try.func14, Try.ntmps14
  go_wp2_with fail
  refine (rsign_any _ _ _ i0 i1).mono ?_
  rintro e w9 ⟨rfl, rfl⟩
  go_wp2
  go_ret2
  exact ⟨ret_nb rfl, below_new⟩
set_option maxHeartbeats 1000000 in
theorem rdo52 (a b c h i s t : Int) (w : World) (s0 : 0 ≤ s) (s1 : s < 4294967296) (t0 : 0 ≤ t) (t1 : t < 4294967296) (i0 : 0 ≤ i) (i1 : i < 4294967296) (h0 : -9223372036854775808 ≤ h) (h1 : h ≤ 9223372036854775807) (hi : i < 65536) : Calls Try.prog 14 #[.agg #[.int .i64 52, .int .i64 a, .int .i64 b, .int .i64 c, .int .i64 h, .int .u32 i], .int .u32 s, .int .u32 t] w fun e w' => e = .returned (.tuple #[.int .u32 (nv 52 h i s t), .bool true]) ∧ Below w.heap.size w w' := by
  have z := and16 i i0 i1
  rw [Int.emod_eq_of_lt i0 hi] at z
  go_enter Try.func14, Try.ntmps14
  go_wp2_with fail
  refine (rsign_any _ _ _ i0 i1).mono ?_
  rintro e w9 ⟨rfl, rfl⟩
  go_wp2
  go_ret2
  exact ⟨ret_nb rfl, below_new⟩
set_option maxHeartbeats 1000000 in
theorem rdo53 (a b c h i s t : Int) (w : World) (s0 : 0 ≤ s) (s1 : s < 4294967296) (t0 : 0 ≤ t) (t1 : t < 4294967296) (i0 : 0 ≤ i) (i1 : i < 4294967296) (h0 : -9223372036854775808 ≤ h) (h1 : h ≤ 9223372036854775807) (hi : i < 65536) : Calls Try.prog 14 #[.agg #[.int .i64 53, .int .i64 a, .int .i64 b, .int .i64 c, .int .i64 h, .int .u32 i], .int .u32 s, .int .u32 t] w fun e w' => e = .returned (.tuple #[.int .u32 (nv 53 h i s t), .bool true]) ∧ Below w.heap.size w w' := by
  have z := and16 i i0 i1
  rw [Int.emod_eq_of_lt i0 hi] at z
  go_enter Try.func14, Try.ntmps14
  go_wp2_with fail
  refine (rsign_any _ _ _ i0 i1).mono ?_
  rintro e w9 ⟨rfl, rfl⟩
  go_wp2
  go_ret2
  exact ⟨ret_nb (by simp only [nv]; omega), below_new⟩
set_option maxHeartbeats 1000000 in
theorem rdo63 (a b c h i s t : Int) (w : World) (s0 : 0 ≤ s) (s1 : s < 4294967296) (t0 : 0 ≤ t) (t1 : t < 4294967296) (i0 : 0 ≤ i) (i1 : i < 4294967296) (h0 : -9223372036854775808 ≤ h) (h1 : h ≤ 9223372036854775807) : Calls Try.prog 14 #[.agg #[.int .i64 63, .int .i64 a, .int .i64 b, .int .i64 c, .int .i64 h, .int .u32 i], .int .u32 s, .int .u32 t] w fun e w' => e = .returned (.tuple #[.int .u32 (nv 63 h i s t), .bool true]) ∧ Below w.heap.size w w' := by
  have z := and16 i i0 i1
  have z0 : 0 ≤ i % 65536 := by omega
  have z1 : i % 65536 < 65536 := by omega
  go_enter Try.func14, Try.ntmps14
  go_wp2_with fail
  refine (rsign_any _ _ _ i0 i1).mono ?_
  rintro e w9 ⟨rfl, rfl⟩
  go_wp2_with fail
  refine (rmul_any _ _ _ _ s0 s1 t0 t1).mono ?_
  rintro e w1 ⟨rfl, rfl⟩
  go_wp2
  go_ret2
  exact ⟨ret_nb rfl, below_new⟩
set_option maxHeartbeats 1000000 in
theorem rdo64 (a b c h i s t : Int) (w : World) (s0 : 0 ≤ s) (s1 : s < 4294967296) (t0 : 0 ≤ t) (t1 : t < 4294967296) (i0 : 0 ≤ i) (i1 : i < 4294967296) (h0 : -9223372036854775808 ≤ h) (h1 : h ≤ 9223372036854775807) : Calls Try.prog 14 #[.agg #[.int .i64 64, .int .i64 a, .int .i64 b, .int .i64 c, .int .i64 h, .int .u32 i], .int .u32 s, .int .u32 t] w fun e w' => e = .returned (.tuple #[.int .u32 (nv 64 h i s t), .bool true]) ∧ Below w.heap.size w w' := by
  have z := and16 i i0 i1
  have z0 : 0 ≤ i % 65536 := by omega
  have z1 : i % 65536 < 65536 := by omega
  obtain ⟨c0, c1⟩ := clz_rng s s0 s1
  go_enter Try.func14, Try.ntmps14
  go_wp2_with fail
  refine (rsign_any _ _ _ i0 i1).mono ?_
  rintro e w9 ⟨rfl, rfl⟩
  go_wp2_with fail
  refine (rclz_any _ _ s0 s1).mono ?_
  rintro e w1 ⟨rfl, rfl⟩
  go_wp2
  go_ret2
  exact ⟨ret_nb rfl, below_new⟩
set_option maxHeartbeats 1000000 in
theorem rdo65 (a b c h i s t : Int) (w : World) (s0 : 0 ≤ s) (s1 : s < 4294967296) (t0 : 0 ≤ t) (t1 : t < 4294967296) (i0 : 0 ≤ i) (i1 : i < 4294967296) (h0 : -9223372036854775808 ≤ h) (h1 : h ≤ 9223372036854775807) : Calls Try.prog 14 #[.agg #[.int .i64 65, .int .i64 a, .int .i64 b, .int .i64 c, .int .i64 h, .int .u32 i], .int .u32 s, .int .u32 t] w fun e w' => e = .returned (.tuple #[.int .u32 (nv 65 h i s t), .bool true]) ∧ Below w.heap.size w w' := by
  have z := and16 i i0 i1
  have z0 : 0 ≤ i % 65536 := by omega
  have z1 : i % 65536 < 65536 := by omega
  obtain ⟨c0, c1⟩ := clz_rng (4294967295 - s) (by omega) (by omega)
  go_enter Try.func14, Try.ntmps14
  go_wp2_with fail
  refine (rsign_any _ _ _ i0 i1).mono ?_
  rintro e w9 ⟨rfl, rfl⟩
  go_wp2_with fail
  refine (rclo_any _ _ s0 s1).mono ?_
  rintro e w1 ⟨rfl, rfl⟩
  go_wp2
  go_ret2
  exact ⟨ret_nb rfl, below_new⟩
set_option maxHeartbeats 1000000 in
theorem rdo_out (k a b c h i s t : Int) (w : World) (s0 : 0 ≤ s) (s1 : s < 4294967296) (t0 : 0 ≤ t) (t1 : t < 4294967296) (i0 : 0 ≤ i) (i1 : i < 4294967296) (h0 : -9223372036854775808 ≤ h) (h1 : h ≤ 9223372036854775807) (hk : isN k = false) : Calls Try.prog 14 #[.agg #[.int .i64 k, .int .i64 a, .int .i64 b, .int .i64 c, .int .i64 h, .int .u32 i], .int .u32 s, .int .u32 t] w fun e w' => e = .returned (.tuple #[.int .u32 0, .bool false]) ∧ Below w.heap.size w w' := by
  simp only [isN, decide_eq_false_iff_not] at hk
  have e1 : (k == 1) = false := by simp only [beq_eq_false_iff_ne]; omega
  have e2 : (k == 2) = false := by simp only [beq_eq_false_iff_ne]; omega
  have e3 : (k == 3) = false := by simp only [beq_eq_false_iff_ne]; omega
  have e4 : (k == 4) = false := by simp only [beq_eq_false_iff_ne]; omega
  have e5 : (k == 5) = false := by simp only [beq_eq_false_iff_ne]; omega
  have e6 : (k == 6) = false := by simp only [beq_eq_false_iff_ne]; omega
  have e22 : (k == 22) = false := by simp only [beq_eq_false_iff_ne]; omega
  have e23 : (k == 23) = false := by simp only [beq_eq_false_iff_ne]; omega
  have e24 : (k == 24) = false := by simp only [beq_eq_false_iff_ne]; omega
  have e25 : (k == 25) = false := by simp only [beq_eq_false_iff_ne]; omega
  have e26 : (k == 26) = false := by simp only [beq_eq_false_iff_ne]; omega
  have e27 : (k == 27) = false := by simp only [beq_eq_false_iff_ne]; omega
  have e28 : (k == 28) = false := by simp only [beq_eq_false_iff_ne]; omega
  have e29 : (k == 29) = false := by simp only [beq_eq_false_iff_ne]; omega
  have e30 : (k == 30) = false := by simp only [beq_eq_false_iff_ne]; omega
  have e31 : (k == 31) = false := by simp only [beq_eq_false_iff_ne]; omega
  have e46 : (k == 46) = false := by simp only [beq_eq_false_iff_ne]; omega
  have e47 : (k == 47) = false := by simp only [beq_eq_false_iff_ne]; omega
  have e48 : (k == 48) = false := by simp only [beq_eq_false_iff_ne]; omega
  have e49 : (k == 49) = false := by simp only [beq_eq_false_iff_ne]; omega
  have e50 : (k == 50) = false := by simp only [beq_eq_false_iff_ne]; omega
  have e51 : (k == 51) = false := by simp only [beq_eq_false_iff_ne]; omega
  have e52 : (k == 52) = false := by simp only [beq_eq_false_iff_ne]; omega
  have e53 : (k == 53) = false := by simp only [beq_eq_false_iff_ne]; omega
  have e63 : (k == 63) = false := by simp only [beq_eq_false_iff_ne]; omega
  have e64 : (k == 64) = false := by simp only [beq_eq_false_iff_ne]; omega
  have e65 : (k == 65) = false := by simp only [beq_eq_false_iff_ne]; omega
  clear hk
  go_enter Try.func14, Try.ntmps14
  go_wp2_with fail
  refine (rsign_any _ _ _ i0 i1).mono ?_
  rintro e w9 ⟨rfl, rfl⟩
  go_wp2
  go_ret2
  exact ⟨rfl, below_new⟩
theorem rdo_any (k a b c h i s t : Int) (w : World) (s0 : 0 ≤ s) (s1 : s < 4294967296) (t0 : 0 ≤ t) (t1 : t < 4294967296) (i0 : 0 ≤ i) (i1 : i < 4294967296) (h0 : -9223372036854775808 ≤ h) (h1 : h ≤ 9223372036854775807) (hi : 50 ≤ k → k ≤ 53 → i < 65536) : Calls Try.prog 14 #[.agg #[.int .i64 k, .int .i64 a, .int .i64 b, .int .i64 c, .int .i64 h, .int .u32 i], .int .u32 s, .int .u32 t] w fun e w' => e = .returned (.tuple #[.int .u32 (nvI k h i s t), .bool (isN k)]) ∧ Below w.heap.size w w' := by
  cases hk : isN k
  · have e : nvI k h i s t = 0 := by simp [nvI, hk]
    rw [e]
    exact rdo_out k a b c h i s t w s0 s1 t0 t1 i0 i1 h0 h1 hk
  · have hk' := hk
    simp only [isN, decide_eq_true_eq] at hk'
    have hK : k = 1 ∨ k = 2 ∨ k = 3 ∨ k = 4 ∨ k = 5 ∨ k = 6 ∨ k = 22 ∨ k = 23 ∨ k = 24 ∨ k = 25 ∨ k = 26 ∨ k = 27 ∨ k = 28 ∨ k = 29 ∨ k = 30 ∨ k = 31 ∨ k = 46 ∨ k = 47 ∨ k = 48 ∨ k = 49 ∨ k = 50 ∨ k = 51 ∨ k = 52 ∨ k = 53 ∨ k = 63 ∨ k = 64 ∨ k = 65 := by omega
    clear hk'
    rcases hK with rfl | rfl | rfl | rfl | rfl | rfl | rfl | rfl | rfl | rfl | rfl | rfl | rfl | rfl | rfl | rfl | rfl | rfl | rfl | rfl | rfl | rfl | rfl | rfl | rfl | rfl | rfl
    · exact rdo1 a b c h i s t w s0 s1 t0 t1 i0 i1 h0 h1
    · exact rdo2 a b c h i s t w s0 s1 t0 t1 i0 i1 h0 h1
    · exact rdo3 a b c h i s t w s0 s1 t0 t1 i0 i1 h0 h1
    · exact rdo4 a b c h i s t w s0 s1 t0 t1 i0 i1 h0 h1
    · exact rdo5 a b c h i s t w s0 s1 t0 t1 i0 i1 h0 h1
    · exact rdo6 a b c h i s t w s0 s1 t0 t1 i0 i1 h0 h1
    · exact rdo22 a b c h i s t w s0 s1 t0 t1 i0 i1 h0 h1
    · exact rdo23 a b c h i s t w s0 s1 t0 t1 i0 i1 h0 h1
    · exact rdo24 a b c h i s t w s0 s1 t0 t1 i0 i1 h0 h1
    · exact rdo25 a b c h i s t w s0 s1 t0 t1 i0 i1 h0 h1
    · exact rdo26 a b c h i s t w s0 s1 t0 t1 i0 i1 h0 h1
    · exact rdo27 a b c h i s t w s0 s1 t0 t1 i0 i1 h0 h1
    · exact rdo28 a b c h i s t w s0 s1 t0 t1 i0 i1 h0 h1
    · exact rdo29 a b c h i s t w s0 s1 t0 t1 i0 i1 h0 h1
    · exact rdo30 a b c h i s t w s0 s1 t0 t1 i0 i1 h0 h1
    · exact rdo31 a b c h i s t w s0 s1 t0 t1 i0 i1 h0 h1
    · exact rdo46 a b c h i s t w s0 s1 t0 t1 i0 i1 h0 h1
    · exact rdo47 a b c h i s t w s0 s1 t0 t1 i0 i1 h0 h1
    · exact rdo48 a b c h i s t w s0 s1 t0 t1 i0 i1 h0 h1
    · exact rdo49 a b c h i s t w s0 s1 t0 t1 i0 i1 h0 h1
    · exact rdo50 a b c h i s t w s0 s1 t0 t1 i0 i1 h0 h1 (hi (by omega) (by omega))
    · exact rdo51 a b c h i s t w s0 s1 t0 t1 i0 i1 h0 h1 (hi (by omega) (by omega))
    · exact rdo52 a b c h i s t w s0 s1 t0 t1 i0 i1 h0 h1 (hi (by omega) (by omega))
    · exact rdo53 a b c h i s t w s0 s1 t0 t1 i0 i1 h0 h1 (hi (by omega) (by omega))
    · exact rdo63 a b c h i s t w s0 s1 t0 t1 i0 i1 h0 h1
    · exact rdo64 a b c h i s t w s0 s1 t0 t1 i0 i1 h0 h1
    · exact rdo65 a b c h i s t w s0 s1 t0 t1 i0 i1 h0 h1
end Go.Proofs.Ytfdgmenlefojbaa
