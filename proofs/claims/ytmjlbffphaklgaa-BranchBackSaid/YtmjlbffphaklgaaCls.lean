/-
  Function Class of package decode, whatever the Kind.
-/
import Derived.Test.YtmjlbffphaklgaaClsA
import Derived.Test.YtmjlbffphaklgaaClsB
namespace Go.Proofs.Ytmjlbffphaklgaa
open Go.RowKit
set_option linter.unusedVariables false
def cls (k : Nat) : Nat := (#[6, 1, 1, 1, 1, 1, 1, 3, 3, 1, 1, 6, 6, 1, 1, 1, 1, 1, 1, 1, 1, 1, 2, 1, 2, 1, 1, 1, 1, 1, 1, 1, 2, 2, 2, 2, 3, 3, 3, 3, 3, 3, 3, 3, 3, 3, 2, 1, 1, 1, 1, 1, 1, 1, 6, 6, 6, 6, 6, 6, 6, 6, 6, 1, 1, 1, 4, 4, 4, 4, 4, 5, 5, 5, 4, 5, 1, 1] : Array Nat).getD k 0
/-- the class of an instruction, whatever its Kind -/
def clsI (k : Int) : Int := if isK k = true then (cls k.toNat : Int) else 6
theorem cl_nat (k : Nat) (h1 : 1 ≤ k) (hk : k ≤ 77) (s t d h i : Int) (w : World) : Calls Try.prog 20 #[.agg #[.int .i64 ((k : Int)), .int .i64 s, .int .i64 t, .int .i64 d, .int .i64 h, .int .u32 i]] w fun e w' => e = .returned (.int .i64 (cls k : Int)) ∧ Below w.heap.size w w' := by
  match k, h1, hk with
  | 0, h, _ => exact absurd h (by omega)
  | 1, _, _ => exact cl1 s t d h i w
  | 2, _, _ => exact cl2 s t d h i w
  | 3, _, _ => exact cl3 s t d h i w
  | 4, _, _ => exact cl4 s t d h i w
  | 5, _, _ => exact cl5 s t d h i w
  | 6, _, _ => exact cl6 s t d h i w
  | 7, _, _ => exact cl7 s t d h i w
  | 8, _, _ => exact cl8 s t d h i w
  | 9, _, _ => exact cl9 s t d h i w
  | 10, _, _ => exact cl10 s t d h i w
  | 11, _, _ => exact cl11 s t d h i w
  | 12, _, _ => exact cl12 s t d h i w
  | 13, _, _ => exact cl13 s t d h i w
  | 14, _, _ => exact cl14 s t d h i w
  | 15, _, _ => exact cl15 s t d h i w
  | 16, _, _ => exact cl16 s t d h i w
  | 17, _, _ => exact cl17 s t d h i w
  | 18, _, _ => exact cl18 s t d h i w
  | 19, _, _ => exact cl19 s t d h i w
  | 20, _, _ => exact cl20 s t d h i w
  | 21, _, _ => exact cl21 s t d h i w
  | 22, _, _ => exact cl22 s t d h i w
  | 23, _, _ => exact cl23 s t d h i w
  | 24, _, _ => exact cl24 s t d h i w
  | 25, _, _ => exact cl25 s t d h i w
  | 26, _, _ => exact cl26 s t d h i w
  | 27, _, _ => exact cl27 s t d h i w
  | 28, _, _ => exact cl28 s t d h i w
  | 29, _, _ => exact cl29 s t d h i w
  | 30, _, _ => exact cl30 s t d h i w
  | 31, _, _ => exact cl31 s t d h i w
  | 32, _, _ => exact cl32 s t d h i w
  | 33, _, _ => exact cl33 s t d h i w
  | 34, _, _ => exact cl34 s t d h i w
  | 35, _, _ => exact cl35 s t d h i w
  | 36, _, _ => exact cl36 s t d h i w
  | 37, _, _ => exact cl37 s t d h i w
  | 38, _, _ => exact cl38 s t d h i w
  | 39, _, _ => exact cl39 s t d h i w
  | 40, _, _ => exact cl40 s t d h i w
  | 41, _, _ => exact cl41 s t d h i w
  | 42, _, _ => exact cl42 s t d h i w
  | 43, _, _ => exact cl43 s t d h i w
  | 44, _, _ => exact cl44 s t d h i w
  | 45, _, _ => exact cl45 s t d h i w
  | 46, _, _ => exact cl46 s t d h i w
  | 47, _, _ => exact cl47 s t d h i w
  | 48, _, _ => exact cl48 s t d h i w
  | 49, _, _ => exact cl49 s t d h i w
  | 50, _, _ => exact cl50 s t d h i w
  | 51, _, _ => exact cl51 s t d h i w
  | 52, _, _ => exact cl52 s t d h i w
  | 53, _, _ => exact cl53 s t d h i w
  | 54, _, _ => exact cl54 s t d h i w
  | 55, _, _ => exact cl55 s t d h i w
  | 56, _, _ => exact cl56 s t d h i w
  | 57, _, _ => exact cl57 s t d h i w
  | 58, _, _ => exact cl58 s t d h i w
  | 59, _, _ => exact cl59 s t d h i w
  | 60, _, _ => exact cl60 s t d h i w
  | 61, _, _ => exact cl61 s t d h i w
  | 62, _, _ => exact cl62 s t d h i w
  | 63, _, _ => exact cl63 s t d h i w
  | 64, _, _ => exact cl64 s t d h i w
  | 65, _, _ => exact cl65 s t d h i w
  | 66, _, _ => exact cl66 s t d h i w
  | 67, _, _ => exact cl67 s t d h i w
  | 68, _, _ => exact cl68 s t d h i w
  | 69, _, _ => exact cl69 s t d h i w
  | 70, _, _ => exact cl70 s t d h i w
  | 71, _, _ => exact cl71 s t d h i w
  | 72, _, _ => exact cl72 s t d h i w
  | 73, _, _ => exact cl73 s t d h i w
  | 74, _, _ => exact cl74 s t d h i w
  | 75, _, _ => exact cl75 s t d h i w
  | 76, _, _ => exact cl76 s t d h i w
  | 77, _, _ => exact cl77 s t d h i w
  | n + 78, _, h => exact absurd h (by omega)
set_option maxHeartbeats 1000000 in
theorem cl_out (k s t d h i : Int) (w : World) (hk : isK k = false) : Calls Try.prog 20 #[.agg #[.int .i64 k, .int .i64 s, .int .i64 t, .int .i64 d, .int .i64 h, .int .u32 i]] w fun e w' => e = .returned (.int .i64 6) ∧ Below w.heap.size w w' := by
  go_enter Try.func20, Try.ntmps20
  go_wp2_with fail
  refine (isk_any k _).mono ?_
  rintro e w1 ⟨rfl, rfl⟩
  rw [hk]
  go_wp2
  go_ret
  exact ⟨rfl, below_new⟩
theorem cl_any (k s t d h i : Int) (w : World) : Calls Try.prog 20 #[.agg #[.int .i64 k, .int .i64 s, .int .i64 t, .int .i64 d, .int .i64 h, .int .u32 i]] w fun e w' => e = .returned (.int .i64 (clsI k)) ∧ Below w.heap.size w w' := by
  cases hk : isK k
  · have e : clsI k = 6 := by simp [clsI, hk]
    rw [e]
    exact cl_out k s t d h i w hk
  · have hK : 0 < k ∧ k < 78 := by simpa [isK] using hk
    obtain ⟨K, rfl⟩ := Int.eq_ofNat_of_zero_le (show 0 ≤ k by omega)
    have e : clsI K = (cls K : Int) := by simp [clsI, hk]
    rw [e]
    exact cl_nat K (by omega) (by omega) s t d h i w
end Go.Proofs.Ytmjlbffphaklgaa
