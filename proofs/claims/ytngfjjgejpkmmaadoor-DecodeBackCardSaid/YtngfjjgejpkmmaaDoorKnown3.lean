/-
  Chapter 3: function known of the statements: some of the chapter's runs.
-/
import Derived.Test.YtngfjjgejpkmmaaDoorLaw
namespace Go.Proofs.YtngfjjgejpkmmaaDoor
open Go.RowKit
set_option linter.unusedVariables false

theorem kn1 : D.rg 1 0 0 0 32 0 = false := by decide +kernel
theorem kn2 : D.rg 47 1 2 0 0 5 = true := by decide +kernel
theorem kn3 : wdI 1 0 0 0 32 0 = 0 := by decide +kernel
theorem kn4 : wdI 47 1 2 0 0 5 = 606208005 := by decide +kernel
theorem kn5 : D.kW 0 = 1 ∧ D.fS 0 = 0 ∧ D.fT 0 = 0 ∧ D.fD 0 = 0 ∧ D.fH 0 = 0 ∧ D.fI 0 = 0 := by decide +kernel
theorem kn6 : D.kW 4294967295 = 0 := by decide +kernel
theorem kn7 : clsI 40 = 3 := by decide +kernel
theorem in_small {k s t d h i : Int} (a : 0 ≤ k ∧ k ≤ 100) (b : 0 ≤ s ∧ s ≤ 100) (c : 0 ≤ t ∧ t ≤ 100) (e : 0 ≤ d ∧ d ≤ 100) (f : 0 ≤ h ∧ h ≤ 100) (g : 0 ≤ i ∧ i ≤ 100) : InR k s t d h i :=
  ⟨⟨by omega, by omega⟩, ⟨by omega, by omega⟩, ⟨by omega, by omega⟩, ⟨by omega, by omega⟩, ⟨by omega, by omega⟩, by omega, by omega⟩
theorem field0 (k s t d h i : Int) (w : World) : (Instr.field 27 (.agg #[.int .i64 k, .int .i64 s, .int .i64 t, .int .i64 d, .int .i64 h, .int .u32 i]) 0).run Tryd.prog w = .ok (.int .i64 k) w := by kernel_rfl
set_option maxRecDepth 100000 in
set_option maxHeartbeats 4000000 in
theorem known_any (w : World) {gb go cap : Nat} (hL : Hid (Laid w gb go cap)) : Calls Tryd.prog 9 #[] w (TrB w) := by
  have W1 : ∀ w, Hid (Laid w gb go cap) → Calls Tryd.prog 12 #[.agg #[.int .i64 1, .int .i64 0, .int .i64 0, .int .i64 0, .int .i64 32, .int .u32 0]] w fun e w' => e = .returned (.tuple #[.int .u32 0, .bool false]) ∧ Below w.heap.size w w' := fun w h => by
    have := word_any 1 0 0 0 32 0 w h (Lib.hid (in_small (by omega) (by omega) (by omega) (by omega) (by omega) (by omega)))
    rw [kn1, kn3] at this
    exact this
  have W2 : ∀ w, Hid (Laid w gb go cap) → Calls Tryd.prog 12 #[.agg #[.int .i64 47, .int .i64 1, .int .i64 2, .int .i64 0, .int .i64 0, .int .u32 5]] w fun e w' => e = .returned (.tuple #[.int .u32 606208005, .bool true]) ∧ Below w.heap.size w w' := fun w h => by
    have := word_any 47 1 2 0 0 5 w h (Lib.hid (in_small (by omega) (by omega) (by omega) (by omega) (by omega) (by omega)))
    rw [kn2, kn4] at this
    exact this
  have O1 : ∀ w, Hid (Laid w gb go cap) → Calls Tryd.prog 13 #[.int .u32 0] w fun e w' => e = .returned (.agg #[.int .i64 1, .int .i64 0, .int .i64 0, .int .i64 0, .int .i64 0, .int .u32 0]) ∧ Below w.heap.size w w' := fun w h => by
    have := of_any 0 w h (by omega)
    obtain ⟨a, b, c, d, e, f⟩ := kn5
    rw [a, b, c, d, e, f] at this
    exact this
  have O2 : ∀ w, Hid (Laid w gb go cap) → Calls Tryd.prog 13 #[.int .u32 4294967295] w fun e w' => e = .returned (.agg #[.int .i64 0, .int .i64 0, .int .i64 0, .int .i64 0, .int .i64 0, .int .u32 0]) ∧ Below w.heap.size w w' := fun w h => by
    have := of_any 4294967295 w h (by omega)
    obtain ⟨b, c, d, e, f⟩ := D.f_zero kn6
    rw [kn6, b, c, d, e, f] at this
    exact this
  have C1 : ∀ w, Calls Tryd.prog 15 #[.agg #[.int .i64 40, .int .i64 0, .int .i64 0, .int .i64 0, .int .i64 0, .int .u32 0]] w fun e w' => e = .returned (.int .i64 3) ∧ Below w.heap.size w w' := fun w => by
    have := cl_any 40 0 0 0 0 0 w
    rw [kn7] at this
    exact this
  have HW1 := Lib.hid W1; have HW2 := Lib.hid W2; have HO1 := Lib.hid O1; have HO2 := Lib.hid O2; have HC1 := Lib.hid C1
  clear W1 W2 O1 O2 C1
  go_enter Tryd.func9, Tryd.ntmps9
  go_wp2_with fail
  refine (HW1.out _ hL).mono ?_
  rintro e w1 ⟨rfl, hb1⟩
  have hL1 := Lib.hid (hL.out.below hb1)
  go_wp2_with fail
  refine (HW2.out _ hL1).mono ?_
  rintro e w2 ⟨rfl, hb2⟩
  have hL2 := Lib.hid (hL1.out.below hb2)
  have hB2 := band hb1 hb2
  go_wp2_with fail
  refine (HO1.out _ hL2).mono ?_
  rintro e w3 ⟨rfl, hb3⟩
  have hL3 := Lib.hid (hL2.out.below hb3)
  have hB3 := band hB2 hb3
  go_wp2_with fail
  refine (HO2.out _ hL3).mono ?_
  rintro e w4 ⟨rfl, hb4⟩
  have hB4 := band hB3 hb4
  have hfd := field0 0 0 0 0 0 0 w4
  go_wp2_with fail
  clear hfd
  refine (HC1.out _).mono ?_
  rintro e w5 ⟨rfl, hb5⟩
  have hB5 := band hB4 hb5
  go_wp2
  go_ret
  exact ⟨rfl, hB5⟩
end Go.Proofs.YtngfjjgejpkmmaaDoor
