/-
  Chapter 3: instructions as they are drawn (package pianolakeep): Within, near, only, Inst.
-/
import Derived.Test.YtmjlbffphaklgaaRR
namespace Go.Proofs.Ytmjlbffphaklgaa
open Go.RowKit
set_option linter.unusedVariables false

theorem tmod_pos (n K : Int) (hK : 0 < K) : -K < n.tmod K ∧ n.tmod K < K := by
  by_cases h : 0 ≤ n
  · rw [Int.tmod_eq_emod_of_nonneg h]
    have := Int.emod_nonneg n (show K ≠ 0 by omega)
    have := Int.emod_lt_of_pos n hK
    omega
  · have e : n.tmod K = -((-n) % K) := by rw [← Int.tmod_eq_emod_of_nonneg (by omega), Int.neg_tmod]; omega
    have := Int.emod_nonneg (-n) (show K ≠ 0 by omega)
    have := Int.emod_lt_of_pos (-n) hK
    omega
theorem tmod_neg (n K : Int) (hK : 0 < K) : (n.tmod K < 0 → n.tmod K + K = n % K) ∧ (0 ≤ n.tmod K → n.tmod K = n % K) := by
  have e : n.tmod K % K = n % K := by rw [Int.tmod_def, Int.sub_mul_emod_self_left]
  have hr := tmod_pos n K hK
  constructor
  · intro h
    rw [← e, ← Int.add_emod_right, Int.emod_eq_of_lt (by omega) (by omega)]
  · intro h
    rw [← e, Int.emod_eq_of_lt h (by omega)]
/-- a number brought into 0 .. hi -/
def wiF (n hi : Int) : Int := n % (hi + 1)
theorem wiF_rng (n hi : Int) (h : 0 ≤ hi) : 0 ≤ wiF n hi ∧ wiF n hi ≤ hi := by
  have := Int.emod_nonneg n (show hi + 1 ≠ 0 by omega)
  have := Int.emod_lt_of_pos n (show 0 < hi + 1 by omega)
  unfold wiF
  omega
set_option maxHeartbeats 400000 in
theorem within_eq (n hi : Int) (w : World) (h1 : 0 ≤ hi) (h2 : hi ≤ 1000000000) (n0 : -9223372036854775808 ≤ n) (n1 : n ≤ 9223372036854775807) :
    Calls Try.prog 18 #[.int .i64 n, .int .i64 0, .int .i64 hi] w fun e w' => e = .returned (.int .i64 (wiF n hi)) ∧ w = w' := by
  obtain ⟨r0, r1⟩ := wiF_rng n hi h1
  unfold wiF at r0 r1
  by_cases i0 : 0 ≤ n
  · by_cases i1 : n ≤ hi
    · have H := Lib.hid (show wiF n hi = n by unfold wiF; exact Int.emod_eq_of_lt i0 (by omega))
      go_enter Try.func18, Try.ntmps18
      go_wp2
      go_ret
      exact ⟨ret_int H.out.symm, rfl⟩
    · have hg : (decide (0 ≤ n) && decide (n ≤ hi)) = false := by simp; omega
      have hd : decide (n % (hi + 1) < 0) = false := by simp; omega
      go_enter Try.func18, Try.ntmps18
      go_wp2
      go_ret
      exact ⟨rfl, rfl⟩
  · have ht := tmod_pos n (hi + 1) (by omega)
    have H := Lib.hid (tmod_neg n (hi + 1) (by omega))
    have hg : (decide (0 ≤ n) && decide (n ≤ hi)) = false := by simp; omega
    by_cases hneg : n.tmod (hi + 1) < 0
    · go_enter Try.func18, Try.ntmps18
      go_wp2
      go_ret
      exact ⟨ret_int (by unfold wiF; rw [← H.out.1 hneg]; omega), rfl⟩
    · go_enter Try.func18, Try.ntmps18
      go_wp2
      go_ret
      exact ⟨ret_int (by unfold wiF; rw [← H.out.2 (by omega)]), rfl⟩
def neF (n : Int) : Int := if wiF n 1048576 % 8 = 7 then wiF n 1048576 / 8 % 32 else wiF n 1048576 / 8 % 8
theorem neF_rng (n : Int) : 0 ≤ neF n ∧ neF n ≤ 31 := by
  have := wiF_rng n 1048576 (by omega)
  unfold neF
  split <;> omega
set_option maxHeartbeats 400000 in
theorem near_eq (n : Int) (w : World) (n0 : -9223372036854775808 ≤ n) (n1 : n ≤ 9223372036854775807) : Calls Try.prog 23 #[.int .i64 n] w fun e w' => e = .returned (.int .i64 (neF n)) ∧ w = w' := by
  have hr := wiF_rng n 1048576 (by omega)
  obtain ⟨r0, r1⟩ := hr
  have W := fun w => within_eq n 1048576 w (by omega) (by omega) n0 n1
  have H := Lib.hid (show neF n = if wiF n 1048576 % 8 = 7 then wiF n 1048576 / 8 % 32 else wiF n 1048576 / 8 % 8 from rfl)
  generalize wiF n 1048576 = v at *
  by_cases h7 : v % 8 = 7
  · have e7 : (v % 8 == 7) = true := by simpa using h7
    go_enter Try.func23, Try.ntmps23
    go_wp2_with fail
    refine (W _).mono ?_
    rintro e w1 ⟨rfl, rfl⟩
    go_wp2
    go_ret
    exact ⟨ret_int (by rw [H.out, if_pos h7]), rfl⟩
  · have e7 : (v % 8 == 7) = false := by simpa using h7
    go_enter Try.func23, Try.ntmps23
    go_wp2_with fail
    refine (W _).mono ?_
    rintro e w1 ⟨rfl, rfl⟩
    go_wp2
    go_ret
    exact ⟨ret_int (by rw [H.out, if_neg h7]), rfl⟩
set_option maxHeartbeats 400000 in
theorem only0 (k s t d h i : Int) (w : World) : Calls Try.prog 25 #[.agg #[.int .i64 k, .int .i64 s, .int .i64 t, .int .i64 d, .int .i64 h, .int .u32 i], .int .i64 0] w fun e w' => e = .returned (.agg #[.int .i64 k, .int .i64 1, .int .i64 0, .int .i64 0, .int .i64 0, .int .u32 0]) ∧ Below w.heap.size w w' := by
  go_enter Try.func25, Try.ntmps25
  go_wp2
  refine bodyPost_ret (v := .agg #[.int .i64 k, .int .i64 1, .int .i64 0, .int .i64 0, .int .i64 0, .int .u32 0]) (by simp [results, Try.results25, go_sem]) rfl ⟨rfl, ?_⟩
  have hb9 := Below.refl w.heap.size w
  (repeat' (first | (with_reducible exact hb9) | (with_reducible apply bel_set) | (with_reducible apply bel_alloc) | (with_reducible apply below_drewN) | (simp; done) | (simp; omega) | omega | (simp [World.setCell]; done) | (simp [World.setCell]; omega)))
set_option maxHeartbeats 400000 in
theorem only1 (k s t d h i : Int) (w : World) : Calls Try.prog 25 #[.agg #[.int .i64 k, .int .i64 s, .int .i64 t, .int .i64 d, .int .i64 h, .int .u32 i], .int .i64 1] w fun e w' => e = .returned (.agg #[.int .i64 k, .int .i64 0, .int .i64 1, .int .i64 0, .int .i64 0, .int .u32 0]) ∧ Below w.heap.size w w' := by
  go_enter Try.func25, Try.ntmps25
  go_wp2
  refine bodyPost_ret (v := .agg #[.int .i64 k, .int .i64 0, .int .i64 1, .int .i64 0, .int .i64 0, .int .u32 0]) (by simp [results, Try.results25, go_sem]) rfl ⟨rfl, ?_⟩
  have hb9 := Below.refl w.heap.size w
  (repeat' (first | (with_reducible exact hb9) | (with_reducible apply bel_set) | (with_reducible apply bel_alloc) | (with_reducible apply below_drewN) | (simp; done) | (simp; omega) | omega | (simp [World.setCell]; done) | (simp [World.setCell]; omega)))
set_option maxHeartbeats 400000 in
theorem only2 (k s t d h i : Int) (w : World) : Calls Try.prog 25 #[.agg #[.int .i64 k, .int .i64 s, .int .i64 t, .int .i64 d, .int .i64 h, .int .u32 i], .int .i64 2] w fun e w' => e = .returned (.agg #[.int .i64 k, .int .i64 0, .int .i64 0, .int .i64 1, .int .i64 0, .int .u32 0]) ∧ Below w.heap.size w w' := by
  go_enter Try.func25, Try.ntmps25
  go_wp2
  refine bodyPost_ret (v := .agg #[.int .i64 k, .int .i64 0, .int .i64 0, .int .i64 1, .int .i64 0, .int .u32 0]) (by simp [results, Try.results25, go_sem]) rfl ⟨rfl, ?_⟩
  have hb9 := Below.refl w.heap.size w
  (repeat' (first | (with_reducible exact hb9) | (with_reducible apply bel_set) | (with_reducible apply bel_alloc) | (with_reducible apply below_drewN) | (simp; done) | (simp; omega) | omega | (simp [World.setCell]; done) | (simp [World.setCell]; omega)))
set_option maxHeartbeats 400000 in
theorem only3 (k s t d h i : Int) (w : World) : Calls Try.prog 25 #[.agg #[.int .i64 k, .int .i64 s, .int .i64 t, .int .i64 d, .int .i64 h, .int .u32 i], .int .i64 3] w fun e w' => e = .returned (.agg #[.int .i64 k, .int .i64 0, .int .i64 0, .int .i64 0, .int .i64 1, .int .u32 0]) ∧ Below w.heap.size w w' := by
  go_enter Try.func25, Try.ntmps25
  go_wp2
  refine bodyPost_ret (v := .agg #[.int .i64 k, .int .i64 0, .int .i64 0, .int .i64 0, .int .i64 1, .int .u32 0]) (by simp [results, Try.results25, go_sem]) rfl ⟨rfl, ?_⟩
  have hb9 := Below.refl w.heap.size w
  (repeat' (first | (with_reducible exact hb9) | (with_reducible apply bel_set) | (with_reducible apply bel_alloc) | (with_reducible apply below_drewN) | (simp; done) | (simp; omega) | omega | (simp [World.setCell]; done) | (simp [World.setCell]; omega)))
set_option maxHeartbeats 400000 in
theorem only4 (k s t d h i : Int) (w : World) : Calls Try.prog 25 #[.agg #[.int .i64 k, .int .i64 s, .int .i64 t, .int .i64 d, .int .i64 h, .int .u32 i], .int .i64 4] w fun e w' => e = .returned (.agg #[.int .i64 k, .int .i64 0, .int .i64 0, .int .i64 0, .int .i64 0, .int .u32 i]) ∧ Below w.heap.size w w' := by
  go_enter Try.func25, Try.ntmps25
  go_wp2
  refine bodyPost_ret (v := .agg #[.int .i64 k, .int .i64 0, .int .i64 0, .int .i64 0, .int .i64 0, .int .u32 i]) (by simp [results, Try.results25, go_sem]) rfl ⟨rfl, ?_⟩
  have hb9 := Below.refl w.heap.size w
  (repeat' (first | (with_reducible exact hb9) | (with_reducible apply bel_set) | (with_reducible apply bel_alloc) | (with_reducible apply below_drewN) | (simp; done) | (simp; omega) | omega | (simp [World.setCell]; done) | (simp [World.setCell]; omega)))
set_option maxHeartbeats 400000 in
theorem only5 (k s t d h i : Int) (w : World) : Calls Try.prog 25 #[.agg #[.int .i64 k, .int .i64 s, .int .i64 t, .int .i64 d, .int .i64 h, .int .u32 i], .int .i64 5] w fun e w' => e = .returned (.agg #[.int .i64 k, .int .i64 0, .int .i64 0, .int .i64 0, .int .i64 0, .int .u32 1]) ∧ Below w.heap.size w w' := by
  go_enter Try.func25, Try.ntmps25
  go_wp2
  refine bodyPost_ret (v := .agg #[.int .i64 k, .int .i64 0, .int .i64 0, .int .i64 0, .int .i64 0, .int .u32 1]) (by simp [results, Try.results25, go_sem]) rfl ⟨rfl, ?_⟩
  have hb9 := Below.refl w.heap.size w
  (repeat' (first | (with_reducible exact hb9) | (with_reducible apply bel_set) | (with_reducible apply bel_alloc) | (with_reducible apply below_drewN) | (simp; done) | (simp; omega) | omega | (simp [World.setCell]; done) | (simp [World.setCell]; omega)))
end Go.Proofs.Ytmjlbffphaklgaa
