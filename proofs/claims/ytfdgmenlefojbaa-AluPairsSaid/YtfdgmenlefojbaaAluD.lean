/-
  Chapter 4: function Do of package alu.
-/
import Derived.Test.YtfdgmenlefojbaaAluL
namespace Go.Proofs.Ytfdgmenlefojbaa
open Go.RowKit
set_option linter.unusedVariables false

set_option maxHeartbeats 1000000 in
theorem do1 (a b c h i s t : Int) (w : World) (s0 : 0 ≤ s) (s1 : s < 4294967296) (t0 : 0 ≤ t) (t1 : t < 4294967296) (i0 : 0 ≤ i) (i1 : i < 4294967296) : Calls Try.prog 12 #[.agg #[.int .i64 1, .int .i64 a, .int .i64 b, .int .i64 c, .int .i64 h, .int .u32 i], .int .u32 s, .int .u32 t] w fun e w' => e = .returned (.tuple #[.int .u32 (nv 1 h i s t), .bool true]) ∧ Below w.heap.size w w' := by
  have hb := W.and31 h
  have hr0 : 0 ≤ h % 32 := by omega
  have hr1 : h % 32 < 32 := by omega
  go_enter Try.func12, Try.ntmps12
  go_wp2
  go_ret2
  exact ⟨ret_nb rfl, below_new⟩
set_option maxHeartbeats 1000000 in
theorem do2 (a b c h i s t : Int) (w : World) (s0 : 0 ≤ s) (s1 : s < 4294967296) (t0 : 0 ≤ t) (t1 : t < 4294967296) (i0 : 0 ≤ i) (i1 : i < 4294967296) : Calls Try.prog 12 #[.agg #[.int .i64 2, .int .i64 a, .int .i64 b, .int .i64 c, .int .i64 h, .int .u32 i], .int .u32 s, .int .u32 t] w fun e w' => e = .returned (.tuple #[.int .u32 (nv 2 h i s t), .bool true]) ∧ Below w.heap.size w w' := by
  have hb := W.and31 h
  have hr0 : 0 ≤ h % 32 := by omega
  have hr1 : h % 32 < 32 := by omega
  go_enter Try.func12, Try.ntmps12
  go_wp2
  go_ret2
  exact ⟨ret_nb rfl, below_new⟩
set_option maxHeartbeats 1000000 in
theorem do3 (a b c h i s t : Int) (w : World) (s0 : 0 ≤ s) (s1 : s < 4294967296) (t0 : 0 ≤ t) (t1 : t < 4294967296) (i0 : 0 ≤ i) (i1 : i < 4294967296) : Calls Try.prog 12 #[.agg #[.int .i64 3, .int .i64 a, .int .i64 b, .int .i64 c, .int .i64 h, .int .u32 i], .int .u32 s, .int .u32 t] w fun e w' => e = .returned (.tuple #[.int .u32 (nv 3 h i s t), .bool true]) ∧ Below w.heap.size w w' := by
  go_enter Try.func12, Try.ntmps12
  go_wp2_with fail
  refine (sar_any _ _ _ t0 t1).mono ?_
  rintro e w1 ⟨rfl, rfl⟩
  go_wp2
  go_ret2
  exact ⟨ret_nb rfl, below_new⟩
set_option maxHeartbeats 1000000 in
theorem do4 (a b c h i s t : Int) (w : World) (s0 : 0 ≤ s) (s1 : s < 4294967296) (t0 : 0 ≤ t) (t1 : t < 4294967296) (i0 : 0 ≤ i) (i1 : i < 4294967296) : Calls Try.prog 12 #[.agg #[.int .i64 4, .int .i64 a, .int .i64 b, .int .i64 c, .int .i64 h, .int .u32 i], .int .u32 s, .int .u32 t] w fun e w' => e = .returned (.tuple #[.int .u32 (nv 4 h i s t), .bool true]) ∧ Below w.heap.size w w' := by
  have hb := and31u s s0 s1
  have hr0 : 0 ≤ s % 32 := by omega
  have hr1 : s % 32 < 32 := by omega
  go_enter Try.func12, Try.ntmps12
  go_wp2
  go_ret2
  exact ⟨ret_nb rfl, below_new⟩
set_option maxHeartbeats 1000000 in
theorem do5 (a b c h i s t : Int) (w : World) (s0 : 0 ≤ s) (s1 : s < 4294967296) (t0 : 0 ≤ t) (t1 : t < 4294967296) (i0 : 0 ≤ i) (i1 : i < 4294967296) : Calls Try.prog 12 #[.agg #[.int .i64 5, .int .i64 a, .int .i64 b, .int .i64 c, .int .i64 h, .int .u32 i], .int .u32 s, .int .u32 t] w fun e w' => e = .returned (.tuple #[.int .u32 (nv 5 h i s t), .bool true]) ∧ Below w.heap.size w w' := by
  have hb := and31u s s0 s1
  have hr0 : 0 ≤ s % 32 := by omega
  have hr1 : s % 32 < 32 := by omega
  go_enter Try.func12, Try.ntmps12
  go_wp2
  go_ret2
  exact ⟨ret_nb rfl, below_new⟩
set_option maxHeartbeats 1000000 in
theorem do6 (a b c h i s t : Int) (w : World) (s0 : 0 ≤ s) (s1 : s < 4294967296) (t0 : 0 ≤ t) (t1 : t < 4294967296) (i0 : 0 ≤ i) (i1 : i < 4294967296) : Calls Try.prog 12 #[.agg #[.int .i64 6, .int .i64 a, .int .i64 b, .int .i64 c, .int .i64 h, .int .u32 i], .int .u32 s, .int .u32 t] w fun e w' => e = .returned (.tuple #[.int .u32 (nv 6 h i s t), .bool true]) ∧ Below w.heap.size w w' := by
  go_enter Try.func12, Try.ntmps12
  go_wp2_with fail
  refine (sar_any _ _ _ t0 t1).mono ?_
  rintro e w1 ⟨rfl, rfl⟩
  go_wp2
  go_ret2
  exact ⟨ret_nb rfl, below_new⟩
set_option maxHeartbeats 1000000 in
theorem do22 (a b c h i s t : Int) (w : World) (s0 : 0 ≤ s) (s1 : s < 4294967296) (t0 : 0 ≤ t) (t1 : t < 4294967296) (i0 : 0 ≤ i) (i1 : i < 4294967296) : Calls Try.prog 12 #[.agg #[.int .i64 22, .int .i64 a, .int .i64 b, .int .i64 c, .int .i64 h, .int .u32 i], .int .u32 s, .int .u32 t] w fun e w' => e = .returned (.tuple #[.int .u32 (nv 22 h i s t), .bool true]) ∧ Below w.heap.size w w' := by
  go_enter Try.func12, Try.ntmps12
  go_wp2
  go_ret2
  exact ⟨ret_nb rfl, below_new⟩
set_option maxHeartbeats 1000000 in
theorem do23 (a b c h i s t : Int) (w : World) (s0 : 0 ≤ s) (s1 : s < 4294967296) (t0 : 0 ≤ t) (t1 : t < 4294967296) (i0 : 0 ≤ i) (i1 : i < 4294967296) : Calls Try.prog 12 #[.agg #[.int .i64 23, .int .i64 a, .int .i64 b, .int .i64 c, .int .i64 h, .int .u32 i], .int .u32 s, .int .u32 t] w fun e w' => e = .returned (.tuple #[.int .u32 (nv 23 h i s t), .bool true]) ∧ Below w.heap.size w w' := by
  go_enter Try.func12, Try.ntmps12
  go_wp2
  go_ret2
  exact ⟨ret_nb rfl, below_new⟩
set_option maxHeartbeats 1000000 in
theorem do24 (a b c h i s t : Int) (w : World) (s0 : 0 ≤ s) (s1 : s < 4294967296) (t0 : 0 ≤ t) (t1 : t < 4294967296) (i0 : 0 ≤ i) (i1 : i < 4294967296) : Calls Try.prog 12 #[.agg #[.int .i64 24, .int .i64 a, .int .i64 b, .int .i64 c, .int .i64 h, .int .u32 i], .int .u32 s, .int .u32 t] w fun e w' => e = .returned (.tuple #[.int .u32 (nv 24 h i s t), .bool true]) ∧ Below w.heap.size w w' := by
  go_enter Try.func12, Try.ntmps12
  go_wp2
  go_ret2
  exact ⟨ret_nb rfl, below_new⟩
set_option maxHeartbeats 1000000 in
theorem do25 (a b c h i s t : Int) (w : World) (s0 : 0 ≤ s) (s1 : s < 4294967296) (t0 : 0 ≤ t) (t1 : t < 4294967296) (i0 : 0 ≤ i) (i1 : i < 4294967296) : Calls Try.prog 12 #[.agg #[.int .i64 25, .int .i64 a, .int .i64 b, .int .i64 c, .int .i64 h, .int .u32 i], .int .u32 s, .int .u32 t] w fun e w' => e = .returned (.tuple #[.int .u32 (nv 25 h i s t), .bool true]) ∧ Below w.heap.size w w' := by
  go_enter Try.func12, Try.ntmps12
  go_wp2
  go_ret2
  exact ⟨ret_nb rfl, below_new⟩
set_option maxHeartbeats 1000000 in
theorem do26 (a b c h i s t : Int) (w : World) (s0 : 0 ≤ s) (s1 : s < 4294967296) (t0 : 0 ≤ t) (t1 : t < 4294967296) (i0 : 0 ≤ i) (i1 : i < 4294967296) : Calls Try.prog 12 #[.agg #[.int .i64 26, .int .i64 a, .int .i64 b, .int .i64 c, .int .i64 h, .int .u32 i], .int .u32 s, .int .u32 t] w fun e w' => e = .returned (.tuple #[.int .u32 (nv 26 h i s t), .bool true]) ∧ Below w.heap.size w w' := by
  go_enter Try.func12, Try.ntmps12
  go_wp2
  go_ret2
  exact ⟨ret_nb rfl, below_new⟩
set_option maxHeartbeats 1000000 in
theorem do27 (a b c h i s t : Int) (w : World) (s0 : 0 ≤ s) (s1 : s < 4294967296) (t0 : 0 ≤ t) (t1 : t < 4294967296) (i0 : 0 ≤ i) (i1 : i < 4294967296) : Calls Try.prog 12 #[.agg #[.int .i64 27, .int .i64 a, .int .i64 b, .int .i64 c, .int .i64 h, .int .u32 i], .int .u32 s, .int .u32 t] w fun e w' => e = .returned (.tuple #[.int .u32 (nv 27 h i s t), .bool true]) ∧ Below w.heap.size w w' := by
  go_enter Try.func12, Try.ntmps12
  go_wp2
  go_ret2
  exact ⟨ret_nb rfl, below_new⟩
set_option maxHeartbeats 1000000 in
theorem do28 (a b c h i s t : Int) (w : World) (s0 : 0 ≤ s) (s1 : s < 4294967296) (t0 : 0 ≤ t) (t1 : t < 4294967296) (i0 : 0 ≤ i) (i1 : i < 4294967296) : Calls Try.prog 12 #[.agg #[.int .i64 28, .int .i64 a, .int .i64 b, .int .i64 c, .int .i64 h, .int .u32 i], .int .u32 s, .int .u32 t] w fun e w' => e = .returned (.tuple #[.int .u32 (nv 28 h i s t), .bool true]) ∧ Below w.heap.size w w' := by
  go_enter Try.func12, Try.ntmps12
  go_wp2
  go_ret2
  exact ⟨ret_nb rfl, below_new⟩
set_option maxHeartbeats 1000000 in
theorem do29 (a b c h i s t : Int) (w : World) (s0 : 0 ≤ s) (s1 : s < 4294967296) (t0 : 0 ≤ t) (t1 : t < 4294967296) (i0 : 0 ≤ i) (i1 : i < 4294967296) : Calls Try.prog 12 #[.agg #[.int .i64 29, .int .i64 a, .int .i64 b, .int .i64 c, .int .i64 h, .int .u32 i], .int .u32 s, .int .u32 t] w fun e w' => e = .returned (.tuple #[.int .u32 (nv 29 h i s t), .bool true]) ∧ Below w.heap.size w w' := by
  go_enter Try.func12, Try.ntmps12
  go_wp2
  go_ret2
  exact ⟨ret_nb rfl, below_new⟩
set_option maxHeartbeats 1000000 in
theorem do30 (a b c h i s t : Int) (w : World) (s0 : 0 ≤ s) (s1 : s < 4294967296) (t0 : 0 ≤ t) (t1 : t < 4294967296) (i0 : 0 ≤ i) (i1 : i < 4294967296) : Calls Try.prog 12 #[.agg #[.int .i64 30, .int .i64 a, .int .i64 b, .int .i64 c, .int .i64 h, .int .u32 i], .int .u32 s, .int .u32 t] w fun e w' => e = .returned (.tuple #[.int .u32 (nv 30 h i s t), .bool true]) ∧ Below w.heap.size w w' := by
  go_enter Try.func12, Try.ntmps12
  go_wp2_with fail
  refine (less_any _ _ _ _ s0 s1 t0 t1).mono ?_
  rintro e w1 ⟨rfl, rfl⟩
  go_wp2_with fail
  refine (bit_any _ _).mono ?_
  rintro e w2 ⟨rfl, rfl⟩
  go_wp2
  go_ret2
  exact ⟨ret_nb rfl, below_new⟩
set_option maxHeartbeats 1000000 in
theorem do31 (a b c h i s t : Int) (w : World) (s0 : 0 ≤ s) (s1 : s < 4294967296) (t0 : 0 ≤ t) (t1 : t < 4294967296) (i0 : 0 ≤ i) (i1 : i < 4294967296) : Calls Try.prog 12 #[.agg #[.int .i64 31, .int .i64 a, .int .i64 b, .int .i64 c, .int .i64 h, .int .u32 i], .int .u32 s, .int .u32 t] w fun e w' => e = .returned (.tuple #[.int .u32 (nv 31 h i s t), .bool true]) ∧ Below w.heap.size w w' := by
  go_enter Try.func12, Try.ntmps12
  go_wp2_with fail
  refine (less_any _ _ _ _ s0 s1 t0 t1).mono ?_
  rintro e w1 ⟨rfl, rfl⟩
  go_wp2_with fail
  refine (bit_any _ _).mono ?_
  rintro e w2 ⟨rfl, rfl⟩
  go_wp2
  go_ret2
  exact ⟨ret_nb rfl, below_new⟩
set_option maxHeartbeats 1000000 in
theorem do46 (a b c h i s t : Int) (w : World) (s0 : 0 ≤ s) (s1 : s < 4294967296) (t0 : 0 ≤ t) (t1 : t < 4294967296) (i0 : 0 ≤ i) (i1 : i < 4294967296) : Calls Try.prog 12 #[.agg #[.int .i64 46, .int .i64 a, .int .i64 b, .int .i64 c, .int .i64 h, .int .u32 i], .int .u32 s, .int .u32 t] w fun e w' => e = .returned (.tuple #[.int .u32 (nv 46 h i s t), .bool true]) ∧ Below w.heap.size w w' := by
  go_enter Try.func12, Try.ntmps12
  go_wp2_with fail
  refine (signed_any _ _ _ _ _ _ _ i0 i1).mono ?_
  rintro e w1 ⟨rfl, hb1⟩
  go_wp2
  go_ret2
  exact ⟨ret_nb rfl, band below_new hb1⟩
set_option maxHeartbeats 1000000 in
theorem do47 (a b c h i s t : Int) (w : World) (s0 : 0 ≤ s) (s1 : s < 4294967296) (t0 : 0 ≤ t) (t1 : t < 4294967296) (i0 : 0 ≤ i) (i1 : i < 4294967296) : Calls Try.prog 12 #[.agg #[.int .i64 47, .int .i64 a, .int .i64 b, .int .i64 c, .int .i64 h, .int .u32 i], .int .u32 s, .int .u32 t] w fun e w' => e = .returned (.tuple #[.int .u32 (nv 47 h i s t), .bool true]) ∧ Below w.heap.size w w' := by
  go_enter Try.func12, Try.ntmps12
  go_wp2_with fail
  refine (signed_any _ _ _ _ _ _ _ i0 i1).mono ?_
  rintro e w1 ⟨rfl, hb1⟩
  go_wp2
  go_ret2
  exact ⟨ret_nb rfl, band below_new hb1⟩
set_option maxHeartbeats 1000000 in
theorem do48 (a b c h i s t : Int) (w : World) (s0 : 0 ≤ s) (s1 : s < 4294967296) (t0 : 0 ≤ t) (t1 : t < 4294967296) (i0 : 0 ≤ i) (i1 : i < 4294967296) : Calls Try.prog 12 #[.agg #[.int .i64 48, .int .i64 a, .int .i64 b, .int .i64 c, .int .i64 h, .int .u32 i], .int .u32 s, .int .u32 t] w fun e w' => e = .returned (.tuple #[.int .u32 (nv 48 h i s t), .bool true]) ∧ Below w.heap.size w w' := by
  obtain ⟨g0, g1⟩ := sg_rng i i0 i1
  go_enter Try.func12, Try.ntmps12
  go_wp2_with fail
  have X1 : Ins ((w.alloc (.cells #[.int .i64 48, .int .i64 a, .int .i64 b, .int .i64 c, .int .i64 h, .int .u32 i] 26)).drewN 1) w.heap.size 48 a b c h i := ins_new w 48 a b c h i
  have hb0 := below_drewN (below_new (w := w) (o := .cells #[.int .i64 48, .int .i64 a, .int .i64 b, .int .i64 c, .int .i64 h, .int .u32 i] 26)) 1
  have hz0 : w.heap.size < ((w.alloc (.cells #[.int .i64 48, .int .i64 a, .int .i64 b, .int .i64 c, .int .i64 h, .int .u32 i] 26)).drewN 1).heap.size := by simp
  go_region_held3 (fun w' => w'.cell? ⟨w.heap.size, 0, none⟩ = some (.int .i64 48) ∧ w'.cell? ⟨w.heap.size, 1, none⟩ = some (.int .i64 a) ∧ w'.cell? ⟨w.heap.size, 2, none⟩ = some (.int .i64 b) ∧ w'.cell? ⟨w.heap.size, 3, none⟩ = some (.int .i64 c) ∧ w'.cell? ⟨w.heap.size, 4, none⟩ = some (.int .i64 h) ∧ w'.cell? ⟨w.heap.size, 5, none⟩ = some (.int .u32 i))
    (first | exact X1 | exact X2)
    (first
    | (go_at_call 27; refine (signed_any _ _ _ _ _ _ ((w.alloc (.cells #[.int .i64 48, .int .i64 a, .int .i64 b, .int .i64 c, .int .i64 h, .int .u32 i] 26)).drewN 1) i0 i1).mono ?_; rintro e w1 ⟨rfl, hb1⟩; have X2 := ins_below X1 hb1 hz0; have hb2 := band hb0 hb1)
    | (go_at_call 26; refine (less_any _ _ _ _ s0 s1 g0 g1).mono ?_; rintro e w3 ⟨rfl, rfl⟩)
    | (go_at_call 25; refine (bit_any _ _).mono ?_; rintro e w3 ⟨rfl, rfl⟩))
  all_goals
    go_wp2
    go_ret2
    exact ⟨ret_nb rfl, hb2⟩
set_option maxHeartbeats 1000000 in
theorem do49 (a b c h i s t : Int) (w : World) (s0 : 0 ≤ s) (s1 : s < 4294967296) (t0 : 0 ≤ t) (t1 : t < 4294967296) (i0 : 0 ≤ i) (i1 : i < 4294967296) : Calls Try.prog 12 #[.agg #[.int .i64 49, .int .i64 a, .int .i64 b, .int .i64 c, .int .i64 h, .int .u32 i], .int .u32 s, .int .u32 t] w fun e w' => e = .returned (.tuple #[.int .u32 (nv 49 h i s t), .bool true]) ∧ Below w.heap.size w w' := by
  obtain ⟨g0, g1⟩ := sg_rng i i0 i1
  go_enter Try.func12, Try.ntmps12
  go_wp2_with fail
  have X1 : Ins ((w.alloc (.cells #[.int .i64 49, .int .i64 a, .int .i64 b, .int .i64 c, .int .i64 h, .int .u32 i] 26)).drewN 1) w.heap.size 49 a b c h i := ins_new w 49 a b c h i
  have hb0 := below_drewN (below_new (w := w) (o := .cells #[.int .i64 49, .int .i64 a, .int .i64 b, .int .i64 c, .int .i64 h, .int .u32 i] 26)) 1
  have hz0 : w.heap.size < ((w.alloc (.cells #[.int .i64 49, .int .i64 a, .int .i64 b, .int .i64 c, .int .i64 h, .int .u32 i] 26)).drewN 1).heap.size := by simp
  go_region_held3 (fun w' => w'.cell? ⟨w.heap.size, 0, none⟩ = some (.int .i64 49) ∧ w'.cell? ⟨w.heap.size, 1, none⟩ = some (.int .i64 a) ∧ w'.cell? ⟨w.heap.size, 2, none⟩ = some (.int .i64 b) ∧ w'.cell? ⟨w.heap.size, 3, none⟩ = some (.int .i64 c) ∧ w'.cell? ⟨w.heap.size, 4, none⟩ = some (.int .i64 h) ∧ w'.cell? ⟨w.heap.size, 5, none⟩ = some (.int .u32 i))
    (first | exact X1 | exact X2)
    (first
    | (go_at_call 27; refine (signed_any _ _ _ _ _ _ ((w.alloc (.cells #[.int .i64 49, .int .i64 a, .int .i64 b, .int .i64 c, .int .i64 h, .int .u32 i] 26)).drewN 1) i0 i1).mono ?_; rintro e w1 ⟨rfl, hb1⟩; have X2 := ins_below X1 hb1 hz0; have hb2 := band hb0 hb1)
    | (go_at_call 26; refine (less_any _ _ _ _ s0 s1 g0 g1).mono ?_; rintro e w3 ⟨rfl, rfl⟩)
    | (go_at_call 25; refine (bit_any _ _).mono ?_; rintro e w3 ⟨rfl, rfl⟩))
  all_goals
    go_wp2
    go_ret2
    exact ⟨ret_nb rfl, hb2⟩
set_option maxHeartbeats 1000000 in
theorem do50 (a b c h i s t : Int) (w : World) (s0 : 0 ≤ s) (s1 : s < 4294967296) (t0 : 0 ≤ t) (t1 : t < 4294967296) (i0 : 0 ≤ i) (i1 : i < 4294967296) : Calls Try.prog 12 #[.agg #[.int .i64 50, .int .i64 a, .int .i64 b, .int .i64 c, .int .i64 h, .int .u32 i], .int .u32 s, .int .u32 t] w fun e w' => e = .returned (.tuple #[.int .u32 (nv 50 h i s t), .bool true]) ∧ Below w.heap.size w w' := by
  go_enter Try.func12, Try.ntmps12
  go_wp2
  go_ret2
  exact ⟨ret_nb rfl, below_new⟩
set_option maxHeartbeats 1000000 in
theorem do51 (a b c h i s t : Int) (w : World) (s0 : 0 ≤ s) (s1 : s < 4294967296) (t0 : 0 ≤ t) (t1 : t < 4294967296) (i0 : 0 ≤ i) (i1 : i < 4294967296) : Calls Try.prog 12 #[.agg #[.int .i64 51, .int .i64 a, .int .i64 b, .int .i64 c, .int .i64 h, .int .u32 i], .int .u32 s, .int .u32 t] w fun e w' => e = .returned (.tuple #[.int .u32 (nv 51 h i s t), .bool true]) ∧ Below w.heap.size w w' := by
  go_enter Try.func12, Try.ntmps12
  go_wp2
  go_ret2
  exact ⟨ret_nb rfl, below_new⟩
set_option maxHeartbeats 1000000 in
theorem do52 (a b c h i s t : Int) (w : World) (s0 : 0 ≤ s) (s1 : s < 4294967296) (t0 : 0 ≤ t) (t1 : t < 4294967296) (i0 : 0 ≤ i) (i1 : i < 4294967296) : Calls Try.prog 12 #[.agg #[.int .i64 52, .int .i64 a, .int .i64 b, .int .i64 c, .int .i64 h, .int .u32 i], .int .u32 s, .int .u32 t] w fun e w' => e = .returned (.tuple #[.int .u32 (nv 52 h i s t), .bool true]) ∧ Below w.heap.size w w' := by
  go_enter Try.func12, Try.ntmps12
  go_wp2
  go_ret2
  exact ⟨ret_nb rfl, below_new⟩
set_option maxHeartbeats 1000000 in
theorem do53 (a b c h i s t : Int) (w : World) (s0 : 0 ≤ s) (s1 : s < 4294967296) (t0 : 0 ≤ t) (t1 : t < 4294967296) (i0 : 0 ≤ i) (i1 : i < 4294967296) : Calls Try.prog 12 #[.agg #[.int .i64 53, .int .i64 a, .int .i64 b, .int .i64 c, .int .i64 h, .int .u32 i], .int .u32 s, .int .u32 t] w fun e w' => e = .returned (.tuple #[.int .u32 (nv 53 h i s t), .bool true]) ∧ Below w.heap.size w w' := by
  go_enter Try.func12, Try.ntmps12
  go_wp2
  go_ret2
  exact ⟨ret_nb rfl, below_new⟩
set_option maxHeartbeats 1000000 in
theorem do63 (a b c h i s t : Int) (w : World) (s0 : 0 ≤ s) (s1 : s < 4294967296) (t0 : 0 ≤ t) (t1 : t < 4294967296) (i0 : 0 ≤ i) (i1 : i < 4294967296) : Calls Try.prog 12 #[.agg #[.int .i64 63, .int .i64 a, .int .i64 b, .int .i64 c, .int .i64 h, .int .u32 i], .int .u32 s, .int .u32 t] w fun e w' => e = .returned (.tuple #[.int .u32 (nv 63 h i s t), .bool true]) ∧ Below w.heap.size w w' := by
  go_enter Try.func12, Try.ntmps12
  go_wp2
  go_ret2
  exact ⟨ret_nb rfl, below_new⟩
set_option maxHeartbeats 1000000 in
theorem do64 (a b c h i s t : Int) (w : World) (s0 : 0 ≤ s) (s1 : s < 4294967296) (t0 : 0 ≤ t) (t1 : t < 4294967296) (i0 : 0 ≤ i) (i1 : i < 4294967296) : Calls Try.prog 12 #[.agg #[.int .i64 64, .int .i64 a, .int .i64 b, .int .i64 c, .int .i64 h, .int .u32 i], .int .u32 s, .int .u32 t] w fun e w' => e = .returned (.tuple #[.int .u32 (nv 64 h i s t), .bool true]) ∧ Below w.heap.size w w' := by
  obtain ⟨c0, c1⟩ := clz_rng s s0 s1
  go_enter Try.func12, Try.ntmps12
  go_wp2_with fail
  refine (clz_any _ _ s0 s1).mono ?_
  rintro e w1 ⟨rfl, rfl⟩
  go_wp2
  go_ret2
  exact ⟨ret_nb rfl, below_new⟩
set_option maxHeartbeats 1000000 in
theorem do65 (a b c h i s t : Int) (w : World) (s0 : 0 ≤ s) (s1 : s < 4294967296) (t0 : 0 ≤ t) (t1 : t < 4294967296) (i0 : 0 ≤ i) (i1 : i < 4294967296) : Calls Try.prog 12 #[.agg #[.int .i64 65, .int .i64 a, .int .i64 b, .int .i64 c, .int .i64 h, .int .u32 i], .int .u32 s, .int .u32 t] w fun e w' => e = .returned (.tuple #[.int .u32 (nv 65 h i s t), .bool true]) ∧ Below w.heap.size w w' := by
  obtain ⟨c0, c1⟩ := clz_rng (4294967295 - s) (by omega) (by omega)
  go_enter Try.func12, Try.ntmps12
  go_wp2_with fail
  refine (clo_any _ _ s0 s1).mono ?_
  rintro e w1 ⟨rfl, rfl⟩
  go_wp2
  go_ret2
  exact ⟨ret_nb rfl, below_new⟩
set_option maxHeartbeats 1000000 in
theorem do_out (k a b c h i s t : Int) (w : World) (s0 : 0 ≤ s) (s1 : s < 4294967296) (t0 : 0 ≤ t) (t1 : t < 4294967296) (i0 : 0 ≤ i) (i1 : i < 4294967296) (hk : isN k = false) : Calls Try.prog 12 #[.agg #[.int .i64 k, .int .i64 a, .int .i64 b, .int .i64 c, .int .i64 h, .int .u32 i], .int .u32 s, .int .u32 t] w fun e w' => e = .returned (.tuple #[.int .u32 0, .bool false]) ∧ Below w.heap.size w w' := by
  simp only [isN, decide_eq_false_iff_not] at hk
  have e1 : (k == 1) = false := by simp only [beq_eq_false_iff_ne]; omega
  have e2 : (k == 2) = false := by simp only [beq_eq_false_iff_ne]; omega
  have e3 : (k == 3) = false := by simp only [beq_eq_false_iff_ne]; omega
  have e4 : (k == 4) = false := by simp only [beq_eq_false_iff_ne]; omega
  have e5 : (k == 5) = false := by simp only [beq_eq_false_iff_ne]; omega
  have e6 : (k == 6) = false := by simp only [beq_eq_false_iff_ne]; omega
  have e22 : (k == 22) = false := by simp only [beq_eq_false_iff_ne]; omega
  have e23 : (k == 23) = false := by simp only [beq_eq_false_iff_ne]; omega
  have e24 : (k == 24) = false := by simp only [beq_eq_false_iff_ne]; omega
  have e25 : (k == 25) = false := by simp only [beq_eq_false_iff_ne]; omega
  have e26 : (k == 26) = false := by simp only [beq_eq_false_iff_ne]; omega
  have e27 : (k == 27) = false := by simp only [beq_eq_false_iff_ne]; omega
  have e28 : (k == 28) = false := by simp only [beq_eq_false_iff_ne]; omega
  have e29 : (k == 29) = false := by simp only [beq_eq_false_iff_ne]; omega
  have e30 : (k == 30) = false := by simp only [beq_eq_false_iff_ne]; omega
  have e31 : (k == 31) = false := by simp only [beq_eq_false_iff_ne]; omega
  have e46 : (k == 46) = false := by simp only [beq_eq_false_iff_ne]; omega
  have e47 : (k == 47) = false := by simp only [beq_eq_false_iff_ne]; omega
  have e48 : (k == 48) = false := by simp only [beq_eq_false_iff_ne]; omega
  have e49 : (k == 49) = false := by simp only [beq_eq_false_iff_ne]; omega
  have e50 : (k == 50) = false := by simp only [beq_eq_false_iff_ne]; omega
  have e51 : (k == 51) = false := by simp only [beq_eq_false_iff_ne]; omega
  have e52 : (k == 52) = false := by simp only [beq_eq_false_iff_ne]; omega
  have e53 : (k == 53) = false := by simp only [beq_eq_false_iff_ne]; omega
  have e63 : (k == 63) = false := by simp only [beq_eq_false_iff_ne]; omega
  have e64 : (k == 64) = false := by simp only [beq_eq_false_iff_ne]; omega
  have e65 : (k == 65) = false := by simp only [beq_eq_false_iff_ne]; omega
  clear hk
  go_enter Try.func12, Try.ntmps12
  go_wp2
  go_ret2
  exact ⟨rfl, below_new⟩
theorem do_any (k a b c h i s t : Int) (w : World) (s0 : 0 ≤ s) (s1 : s < 4294967296) (t0 : 0 ≤ t) (t1 : t < 4294967296) (i0 : 0 ≤ i) (i1 : i < 4294967296) : Calls Try.prog 12 #[.agg #[.int .i64 k, .int .i64 a, .int .i64 b, .int .i64 c, .int .i64 h, .int .u32 i], .int .u32 s, .int .u32 t] w fun e w' => e = .returned (.tuple #[.int .u32 (nvI k h i s t), .bool (isN k)]) ∧ Below w.heap.size w w' := by
  cases hk : isN k
  · have e : nvI k h i s t = 0 := by simp [nvI, hk]
    rw [e]
    exact do_out k a b c h i s t w s0 s1 t0 t1 i0 i1 hk
  · have hk' := hk
    simp only [isN, decide_eq_true_eq] at hk'
    have hK : k = 1 ∨ k = 2 ∨ k = 3 ∨ k = 4 ∨ k = 5 ∨ k = 6 ∨ k = 22 ∨ k = 23 ∨ k = 24 ∨ k = 25 ∨ k = 26 ∨ k = 27 ∨ k = 28 ∨ k = 29 ∨ k = 30 ∨ k = 31 ∨ k = 46 ∨ k = 47 ∨ k = 48 ∨ k = 49 ∨ k = 50 ∨ k = 51 ∨ k = 52 ∨ k = 53 ∨ k = 63 ∨ k = 64 ∨ k = 65 := by omega
    clear hk'
    rcases hK with rfl | rfl | rfl | rfl | rfl | rfl | rfl | rfl | rfl | rfl | rfl | rfl | rfl | rfl | rfl | rfl | rfl | rfl | rfl | rfl | rfl | rfl | rfl | rfl | rfl | rfl | rfl
    · exact do1 a b c h i s t w s0 s1 t0 t1 i0 i1
    · exact do2 a b c h i s t w s0 s1 t0 t1 i0 i1
    · exact do3 a b c h i s t w s0 s1 t0 t1 i0 i1
    · exact do4 a b c h i s t w s0 s1 t0 t1 i0 i1
    · exact do5 a b c h i s t w s0 s1 t0 t1 i0 i1
    · exact do6 a b c h i s t w s0 s1 t0 t1 i0 i1
    · exact do22 a b c h i s t w s0 s1 t0 t1 i0 i1
    · exact do23 a b c h i s t w s0 s1 t0 t1 i0 i1
    · exact do24 a b c h i s t w s0 s1 t0 t1 i0 i1
    · exact do25 a b c h i s t w s0 s1 t0 t1 i0 i1
    · exact do26 a b c h i s t w s0 s1 t0 t1 i0 i1
    · exact do27 a b c h i s t w s0 s1 t0 t1 i0 i1
    · exact do28 a b c h i s t w s0 s1 t0 t1 i0 i1
    · exact do29 a b c h i s t w s0 s1 t0 t1 i0 i1
    · exact do30 a b c h i s t w s0 s1 t0 t1 i0 i1
    · exact do31 a b c h i s t w s0 s1 t0 t1 i0 i1
    · exact do46 a b c h i s t w s0 s1 t0 t1 i0 i1
    · exact do47 a b c h i s t w s0 s1 t0 t1 i0 i1
    · exact do48 a b c h i s t w s0 s1 t0 t1 i0 i1
    · exact do49 a b c h i s t w s0 s1 t0 t1 i0 i1
    · exact do50 a b c h i s t w s0 s1 t0 t1 i0 i1
    · exact do51 a b c h i s t w s0 s1 t0 t1 i0 i1
    · exact do52 a b c h i s t w s0 s1 t0 t1 i0 i1
    · exact do53 a b c h i s t w s0 s1 t0 t1 i0 i1
    · exact do63 a b c h i s t w s0 s1 t0 t1 i0 i1
    · exact do64 a b c h i s t w s0 s1 t0 t1 i0 i1
    · exact do65 a b c h i s t w s0 s1 t0 t1 i0 i1
end Go.Proofs.Ytfdgmenlefojbaa
