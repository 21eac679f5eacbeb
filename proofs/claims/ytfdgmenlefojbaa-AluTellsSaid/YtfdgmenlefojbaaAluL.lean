/-
  Chapter 4: small functions: signed, bit, shift.
-/
import Derived.Test.YtfdgmenlefojbaaAluM
namespace Go.Proofs.Ytfdgmenlefojbaa
open Go.RowKit
set_option linter.unusedVariables false

set_option maxHeartbeats 400000 in
theorem signed_any (k s t d h i : Int) (w : World) (i0 : 0 ≤ i) (i1 : i < 4294967296) : Calls Try.prog 27 #[.agg #[.int .i64 k, .int .i64 s, .int .i64 t, .int .i64 d, .int .i64 h, .int .u32 i]] w fun e w' => e = .returned (.int .u32 (W.sign i 16)) ∧ Below w.heap.size w w' := by
  go_enter Try.func27, Try.ntmps27
  go_wp2_with fail
  refine (sign_any _ _ _ i0 i1).mono ?_
  rintro e w1 ⟨rfl, rfl⟩
  go_wp2
  go_ret
  exact ⟨rfl, below_new⟩
set_option maxHeartbeats 400000 in
theorem bit_any (b : Bool) (w : World) : Calls Try.prog 25 #[.bool b] w fun e w' => e = .returned (.int .u32 (b2i b)) ∧ w = w' := by
  cases b <;>
  · go_enter Try.func25, Try.ntmps25
    go_wp2
    go_ret
    exact ⟨rfl, rfl⟩
set_option maxHeartbeats 400000 in
theorem rbit_any (b : Bool) (w : World) : Calls Try.prog 33 #[.bool b] w fun e w' => e = .returned (.int .u32 (b2i b)) ∧ w = w' := by
  cases b <;>
  · go_enter Try.func33, Try.ntmps33
    go_wp2
    go_ret
    exact ⟨rfl, rfl⟩
set_option maxHeartbeats 400000 in
theorem shift0 (v n : Int) (w : World) (h0 : 0 ≤ v) (h1 : v < 4294967296) : Calls Try.prog 32 #[.int .i64 0, .int .u32 v, .int .i64 n] w fun e w' => e = .returned (.int .u32 (v * 2 ^ (n % 32).toNat % 4294967296)) ∧ w = w' := by
  obtain ⟨m0, m1, m2⟩ := tmod32 n
  have k0 : 0 ≤ n % 32 := by omega
  have k1 : n % 32 < 32 := by omega
  go_enter Try.func32, Try.ntmps32
  go_wp2
  go_ret
  exact ⟨rfl, rfl⟩
set_option maxHeartbeats 400000 in
theorem shift1 (v n : Int) (w : World) (h0 : 0 ≤ v) (h1 : v < 4294967296) : Calls Try.prog 32 #[.int .i64 1, .int .u32 v, .int .i64 n] w fun e w' => e = .returned (.int .u32 (v / 2 ^ (n % 32).toNat)) ∧ w = w' := by
  obtain ⟨m0, m1, m2⟩ := tmod32 n
  have k0 : 0 ≤ n % 32 := by omega
  have k1 : n % 32 < 32 := by omega
  go_enter Try.func32, Try.ntmps32
  go_wp2
  go_ret
  exact ⟨rfl, rfl⟩
set_option maxHeartbeats 400000 in
theorem shift2 (v n : Int) (w : World) (h0 : 0 ≤ v) (h1 : v < 4294967296) (n0 : -9223372036854775808 ≤ n) (n1 : n ≤ 9223372036854775807) : Calls Try.prog 32 #[.int .i64 2, .int .u32 v, .int .i64 n] w fun e w' => e = .returned (.int .u32 (W.sar v n)) ∧ w = w' := by
  obtain ⟨m0, m1, m2⟩ := tmod32 n
  have k0 : 0 ≤ n % 32 := by omega
  have k1 : n % 32 < 32 := by omega
  go_enter Try.func32, Try.ntmps32
  go_wp2_with fail
  refine (rsar_any _ _ _ h0 h1 n0 n1).mono ?_
  rintro e w1 ⟨rfl, rfl⟩
  go_wp2
  go_ret
  exact ⟨rfl, rfl⟩
end Go.Proofs.Ytfdgmenlefojbaa
