/-
  Chapter 4: the program's answers and the document's are the same (function 'same'); words at bounds (function 'edge'); some runs (function 'known').
-/
import Derived.Test.YtfdgmenlefojbaaAluD
import Derived.Test.YtfdgmenlefojbaaAluR
import Derived.Test.YtfdgmenlefojbaaAluT
import Derived.Test.YtfdgmenlefojbaaAluH
import Derived.Test.YtfdgmenlefojbaaAluI
namespace Go.Proofs.Ytfdgmenlefojbaa
open Go.RowKit
set_option linter.unusedVariables false

theorem pick_word (L : List Int) (hL : ∀ x ∈ L, 0 ≤ x ∧ x < 4294967296) (j : Nat) (h : j < (L.map (Value.int .u32)).length) : ∃ v : Int, 0 ≤ v ∧ v < 4294967296 ∧ (L.map (Value.int .u32))[j] = .int .u32 v := by
  have h' : j < L.length := by simpa using h
  exact ⟨L[j], (hL _ (List.getElem_mem h')).1, (hL _ (List.getElem_mem h')).2, by simp⟩
/-- it returns some word, and nothing that was there has turned -/
def SomeW (w : World) (e : Ending) (w' : World) : Prop := ∃ v : Int, 0 ≤ v ∧ v < 4294967296 ∧ e = .returned (.int .u32 v) ∧ Below w.heap.size w w'
def edges : List Int := [0, 1, 2, 31, 32, 32767, 32768, 65535, 2147483647, 2147483648, 2147483649, 4294967295, 1431655765]
theorem tmod13 (n : Int) : -12 ≤ n.tmod 13 ∧ n.tmod 13 ≤ 12 ∧ n.tmod 13 % 13 = n % 13 := by
  by_cases h : 0 ≤ n
  · rw [Int.tmod_eq_emod_of_nonneg h]; omega
  · have e : n.tmod 13 = -((-n) % 13) := by rw [← Int.tmod_eq_emod_of_nonneg (by omega), Int.neg_tmod]; omega
    rw [e]; omega
set_option maxHeartbeats 400000 in
theorem edge_any (i : Int) (w : World) : Calls Try.prog 8 #[.int .i64 i] w (SomeW w) := by
  obtain ⟨m0, m1, m2⟩ := tmod13 i
  obtain ⟨j, hj⟩ : ∃ j : Nat, i % 13 = (j : Int) := ⟨(i % 13).toNat, by omega⟩
  have hj1 : j < 13 := by omega
  obtain ⟨v, v0, v1, hv⟩ := pick_word edges (by decide) j (by simpa [edges] using hj1)
  have V := Lib.hid hv
  clear hv
  go_enter Try.func8, Try.ntmps8
  go_wp2
  go_ret
  exact ⟨v, v0, v1, congrArg Ending.returned V.out, below_new⟩

set_option maxHeartbeats 1000000 in
theorem known_any (w : World) : Calls Try.prog 9 #[] w (TrB w) := by
  have E1 := Lib.hid (show nvI 29 0 0 0 0 = 4294967295 by decide)
  have E2 := Lib.hid (show isN 29 = true by decide)
  have E3 := Lib.hid (show isN 40 = false by decide)
  have E4 := Lib.hid (show trI 22 0 2147483647 1 = true by simp [trI, isT, tr, over, sumS, wrap32])
  have E5 := Lib.hid (show trI 23 0 2147483647 1 = false by simp [trI, isT])
  go_enter Try.func9, Try.ntmps9
  go_wp2_with fail
  refine (do_any 29 0 0 0 0 0 0 0 _ (by omega) (by omega) (by omega) (by omega) (by omega) (by omega)).mono ?_
  rintro e w1 ⟨rfl, hb1⟩
  rw [E1.out, E2.out]
  go_wp2_with fail
  refine (do_any 40 0 0 0 0 0 1 2 _ (by omega) (by omega) (by omega) (by omega) (by omega) (by omega)).mono ?_
  rintro e w2 ⟨rfl, hb2⟩
  rw [E3.out]
  go_wp2_with fail
  refine (tr_any 22 0 0 0 0 0 2147483647 1 _ (by omega) (by omega) (by omega) (by omega) (by omega) (by omega)).mono ?_
  rintro e w3 ⟨rfl, hb3⟩
  rw [E4.out]
  go_wp2_with fail
  refine (tr_any 23 0 0 0 0 0 2147483647 1 _ (by omega) (by omega) (by omega) (by omega) (by omega) (by omega)).mono ?_
  rintro e w4 ⟨rfl, hb4⟩
  rw [E5.out]
  go_wp2
  go_ret
  exact ⟨rfl, band (band (band hb1 hb2) hb3) hb4⟩

set_option maxRecDepth 100000 in
set_option maxHeartbeats 4000000 in
theorem same_any (k a b c h i s t hi lo : Int) (w : World) (s0 : 0 ≤ s) (s1 : s < 4294967296) (t0 : 0 ≤ t) (t1 : t < 4294967296) (i0 : 0 ≤ i) (i1 : i < 4294967296) (h0 : -9223372036854775808 ≤ h) (h1 : h ≤ 9223372036854775807) (hI : Hid (50 ≤ k → k ≤ 53 → i < 65536)) : Calls Try.prog 7 #[.agg #[.int .i64 k, .int .i64 a, .int .i64 b, .int .i64 c, .int .i64 h, .int .u32 i], .int .u32 s, .int .u32 t, .int .u32 hi, .int .u32 lo] w (TrB w) := by
  have C1 := Lib.hid (fun w => do_any k a b c h i s t w s0 s1 t0 t1 i0 i1)
  have C2 := Lib.hid (fun w => rdo_any k a b c h i s t w s0 s1 t0 t1 i0 i1 h0 h1 hI.out)
  have C3 := Lib.hid (fun w => hv_any k a b c h i s t hi lo w s0 s1 t0 t1 i0 i1)
  have C4 := Lib.hid (fun w => rhv_any k a b c h i s t hi lo w s0 s1 t0 t1 i0 i1)
  have C5 := Lib.hid (fun w => tr_any k a b c h i s t w s0 s1 t0 t1 i0 i1)
  have C6 := Lib.hid (fun w => rtr_any k a b c h i s t w s0 s1 t0 t1 i0 i1)
  have C7 := Lib.hid (fun w => is_any k w)
  have C8 := Lib.hid (fun w => ris_any k w)
  have C9 := Lib.hid (fun w => into_any k a b c h i w)
  have C10 := Lib.hid (fun w => rinto_any k a b c h i w)
  generalize nvI k h i s t = v1 at C1 C2
  generalize isN k = v2 at C1 C2 C7 C8
  generalize hHI k s t hi = v3 at C3 C4
  generalize hLI k s t lo = v4 at C3 C4
  generalize isH k = v5 at C3 C4
  generalize trI k i s t = v6 at C5 C6
  generalize into k b c = v7 at C9 C10
  go_enter Try.func7, Try.ntmps7
  go_wp2_with fail
  have hB0 := below_new (w := w) (o := .cells #[.int .i64 k, .int .i64 a, .int .i64 b, .int .i64 c, .int .i64 h, .int .u32 i] 26)
  refine (C1.out _).mono ?_
  rintro e w1 ⟨rfl, hb1⟩
  have X1 := Lib.hid (ins_below (ins_new w k a b c h i) hb1 (by simp))
  have hz1 : w.heap.size < w1.heap.size := by have := hb1.size; simp at this; omega
  have hB1 := band hB0 hb1
  clear hb1 hB0
  obtain ⟨x0, x1, x2, x3, x4, x5⟩ := X1.out
  go_wp2_with fail
  clear x0 x1 x2 x3 x4 x5
  refine (C2.out _).mono ?_
  rintro e w2 ⟨rfl, hb2⟩
  have X2 := Lib.hid (ins_below X1.out hb2 hz1)
  have hz2 : w.heap.size < w2.heap.size := by have := hb2.size; omega
  have hB2 := band hB1 hb2
  clear hb2 hB1 X1 hz1
  obtain ⟨x0, x1, x2, x3, x4, x5⟩ := X2.out
  go_wp2_with fail
  clear x0 x1 x2 x3 x4 x5
  refine (C3.out _).mono ?_
  rintro e w3 ⟨rfl, hb3⟩
  have X3 := Lib.hid (ins_below X2.out hb3 hz2)
  have hz3 : w.heap.size < w3.heap.size := by have := hb3.size; omega
  have hB3 := band hB2 hb3
  clear hb3 hB2 X2 hz2
  obtain ⟨x0, x1, x2, x3, x4, x5⟩ := X3.out
  go_wp2_with fail
  clear x0 x1 x2 x3 x4 x5
  refine (C4.out _).mono ?_
  rintro e w4 ⟨rfl, hb4⟩
  have X4 := Lib.hid (ins_below X3.out hb4 hz3)
  have hz4 : w.heap.size < w4.heap.size := by have := hb4.size; omega
  have hB4 := band hB3 hb4
  clear hb4 hB3 X3 hz3
  go_wp2_with fail
  have X4d : Ins (w4.drewN 1) w.heap.size k a b c h i := X4.out
  have hz4d : w.heap.size < (w4.drewN 1).heap.size := hz4
  have hB4d := below_drewN hB4 1
  clear hB4 X4 hz4
  go_region_held3 (fun w' => w'.cell? ⟨w.heap.size, 0, none⟩ = some (.int .i64 k) ∧ w'.cell? ⟨w.heap.size, 1, none⟩ = some (.int .i64 a) ∧ w'.cell? ⟨w.heap.size, 2, none⟩ = some (.int .i64 b) ∧ w'.cell? ⟨w.heap.size, 3, none⟩ = some (.int .i64 c) ∧ w'.cell? ⟨w.heap.size, 4, none⟩ = some (.int .i64 h) ∧ w'.cell? ⟨w.heap.size, 5, none⟩ = some (.int .u32 i))
    (first | exact X4d | exact X5 | exact X6 | exact X7 | exact X9 | exact X10)
    (first
    | (go_at_call 13; refine (C5.out (w4.drewN 1)).mono ?_; rintro e w5 ⟨rfl, hb5⟩; have X5 := ins_below X4d hb5 hz4d; have hz5 := Nat.lt_of_lt_of_le hz4d hb5.size; have hB5 := band hB4d hb5)
    | (go_at_call 17; refine (C6.out w5).mono ?_; rintro e w6 ⟨rfl, hb6⟩; have X6 := ins_below X5 hb6 hz5; have hz6 := Nat.lt_of_lt_of_le hz5 hb6.size; have hB6 := band hB5 hb6)
    | (go_at_call 18; refine (C7.out w6).mono ?_; rintro e w7 ⟨rfl, hb7⟩; have X7 := ins_below X6 hb7 hz6; have hz7 := Nat.lt_of_lt_of_le hz6 hb7.size; have hB7 := band hB6 hb7)
    | (go_at_call 19; refine (C8.out w7).mono ?_; rintro e w8 ⟨rfl, rfl⟩)
    | (go_at_call 20; refine (C9.out w7).mono ?_; rintro e w9 ⟨rfl, hb9⟩; have X9 := ins_below X7 hb9 hz7; have hz9 := Nat.lt_of_lt_of_le hz7 hb9.size; have hB9 := band hB7 hb9)
    | (go_at_call 21; refine (C10.out w9).mono ?_; rintro e w10 ⟨rfl, hb10⟩; have X10 := ins_below X9 hb10 hz9; have hB10 := band hB9 hb10))
  all_goals
    go_wp2
    go_ret
    exact ⟨rfl, hB10⟩
end Go.Proofs.Ytfdgmenlefojbaa
