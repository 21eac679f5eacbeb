/-
  Chapter 3: functions insts, words of the statements: the program's answers and the document's are the same.
-/
import Derived.Test.YtngfjjgejpkmmaaDoorROf
import Derived.Test.YtngfjjgejpkmmaaDoorCls
import Derived.Deep.RegionHeld3
namespace Go.Proofs.YtngfjjgejpkmmaaDoor
open Go.RowKit
set_option linter.unusedVariables false

/-- it returns true, and nothing that was there has turned -/
def TrB (w : World) (e : Ending) (w' : World) : Prop := e = .returned (.bool true) ∧ Below w.heap.size w w'
/-- the cells of an instruction in block b -/
def Ins (w : World) (b : Nat) (k s t d h i : Int) : Prop :=
  w.cell? ⟨b, 0, none⟩ = some (.int .i64 k) ∧ w.cell? ⟨b, 1, none⟩ = some (.int .i64 s) ∧ w.cell? ⟨b, 2, none⟩ = some (.int .i64 t) ∧ w.cell? ⟨b, 3, none⟩ = some (.int .i64 d) ∧ w.cell? ⟨b, 4, none⟩ = some (.int .i64 h) ∧ w.cell? ⟨b, 5, none⟩ = some (.int .u32 i)
theorem ins_below {w w' : World} {b B : Nat} {k s t d h i : Int} (x : Ins w b k s t d h i) (hb : Below B w w') (hB : b < B) : Ins w' b k s t d h i := by
  obtain ⟨a0, a1, a2, a3, a4, a5⟩ := x
  exact ⟨(hb.cell (p := ⟨b, 0, none⟩) hB).trans a0, (hb.cell (p := ⟨b, 1, none⟩) hB).trans a1, (hb.cell (p := ⟨b, 2, none⟩) hB).trans a2, (hb.cell (p := ⟨b, 3, none⟩) hB).trans a3, (hb.cell (p := ⟨b, 4, none⟩) hB).trans a4, (hb.cell (p := ⟨b, 5, none⟩) hB).trans a5⟩
theorem ins_new (w : World) (k s t d h i : Int) : Ins (w.alloc (.cells #[.int .i64 k, .int .i64 s, .int .i64 t, .int .i64 d, .int .i64 h, .int .u32 i] 27)) w.heap.size k s t d h i := by
  refine ⟨?_, ?_, ?_, ?_, ?_, ?_⟩ <;> simp
/-- an instruction that is right, by numbers -/
theorem rg_out {k s t d h i : Int} (hr : D.rg k s t d h i = true) : ∃ K S T E G I : Nat, k = K ∧ s = S ∧ t = T ∧ d = E ∧ h = G ∧ i = I ∧ 1 ≤ K ∧ K ≤ 77 ∧ S ≤ D.mS K ∧ T ≤ D.mT K ∧ E ≤ D.mD K ∧ G ≤ D.mH K ∧ I ≤ D.mI K := by
  simp only [D.rg, decide_eq_true_eq] at hr
  obtain ⟨K, rfl⟩ := Int.eq_ofNat_of_zero_le (show 0 ≤ k by omega)
  obtain ⟨S, rfl⟩ := Int.eq_ofNat_of_zero_le (show 0 ≤ s by omega)
  obtain ⟨T, rfl⟩ := Int.eq_ofNat_of_zero_le (show 0 ≤ t by omega)
  obtain ⟨E, rfl⟩ := Int.eq_ofNat_of_zero_le (show 0 ≤ d by omega)
  obtain ⟨G, rfl⟩ := Int.eq_ofNat_of_zero_le (show 0 ≤ h by omega)
  obtain ⟨I, rfl⟩ := Int.eq_ofNat_of_zero_le (show 0 ≤ i by omega)
  simp only [Int.toNat_natCast] at hr
  exact ⟨K, S, T, E, G, I, rfl, rfl, rfl, rfl, rfl, rfl, by omega, by omega, by omega, by omega, by omega, by omega, by omega⟩
/-- what both functions Word answer -/
def wdI (k s t d h i : Int) : Int := if D.rg k s t d h i = true then (D.wd k.toNat s.toNat t.toNat d.toNat h.toNat i.toNat : Int) else 0
theorem word_any (k s t d h i : Int) (w : World) {gb go cap : Nat} (hL : Hid (Laid w gb go cap)) (hr : Hid (InR k s t d h i)) : Calls Tryd.prog 12 #[.agg #[.int .i64 k, .int .i64 s, .int .i64 t, .int .i64 d, .int .i64 h, .int .u32 i]] w fun e w' => e = .returned (.tuple #[.int .u32 (wdI k s t d h i), .bool (D.rg k s t d h i)]) ∧ Below w.heap.size w w' := by
  cases hg : D.rg k s t d h i
  · have e : wdI k s t d h i = 0 := by simp [wdI, hg]
    rw [e]
    exact word_no k s t d _ i w hr hg
  · obtain ⟨K, S, T, E, G, I, rfl, rfl, rfl, rfl, rfl, rfl, a1, a2, a3, a4, a5, a6, a7⟩ := rg_out hg
    have e : wdI K S T E G I = (D.wd K S T E G I : Int) := by simp [wdI, hg]
    rw [e]
    exact word_yes K S T E G I w hL a1 a2 a3 a4 a5 a6 a7
theorem rword_any (k s t d h i : Int) (w : World) (hr : Hid (InR k s t d h i)) : Calls Tryd.prog 18 #[.agg #[.int .i64 k, .int .i64 s, .int .i64 t, .int .i64 d, .int .i64 h, .int .u32 i]] w fun e w' => e = .returned (.tuple #[.int .u32 (wdI k s t d h i), .bool (D.rg k s t d h i)]) ∧ Below w.heap.size w w' := by
  cases hg : D.rg k s t d h i
  · have e : wdI k s t d h i = 0 := by simp [wdI, hg]
    rw [e]
    exact rword_no k s t d _ i w hr hg
  · obtain ⟨K, S, T, E, G, I, rfl, rfl, rfl, rfl, rfl, rfl, a1, a2, a3, a4, a5, a6, a7⟩ := rg_out hg
    have e : wdI K S T E G I = (D.wd K S T E G I : Int) := by simp [wdI, hg]
    rw [e]
    exact rword_yes K S T E G I w a1 a2 a3 a4 a5 a6 a7

set_option maxRecDepth 100000 in
set_option maxHeartbeats 4000000 in
theorem insts_any (k s t d h i : Int) (w : World) {gb go cap : Nat} (hL : Hid (Laid w gb go cap)) (hr : Hid (InR k s t d h i)) : Calls Tryd.prog 8 #[.agg #[.int .i64 k, .int .i64 s, .int .i64 t, .int .i64 d, .int .i64 h, .int .u32 i]] w (TrB w) := by
  go_enter Tryd.func8, Tryd.ntmps8
  go_wp2_with fail
  have hL1 := Lib.hid (hL.out.below (below_new (o := .cells #[.int .i64 k, .int .i64 s, .int .i64 t, .int .i64 d, .int .i64 h, .int .u32 i] 27)))
  refine (word_any _ _ _ _ _ _ _ hL1 hr).mono ?_
  rintro e w1 ⟨rfl, hb1⟩
  have X1 := Lib.hid (ins_below (ins_new w k s t d h i) hb1 (by simp))
  obtain ⟨x0, x1, x2, x3, x4, x5⟩ := X1.out
  go_wp2_with fail
  clear x0 x1 x2 x3 x4 x5
  refine (rword_any _ _ _ _ _ _ _ hr).mono ?_
  rintro e w2 ⟨rfl, hb2⟩
  have hz1 : w.heap.size < w1.heap.size := by have := hb1.size; simp at this; omega
  have X2 := Lib.hid (ins_below X1.out hb2 hz1)
  have hz2 : w.heap.size < w2.heap.size := by have := hb2.size; omega
  have hB := band (band (below_new (w := w)) hb1) hb2
  clear hb1 hb2 X1 hL1 hL hz1
  generalize wdI k s t d h i = wv
  generalize D.rg k s t d h i = rv
  go_wp2_with fail
  have X2d : Ins (w2.drewN 1) w.heap.size k s t d h i := X2.out
  have hz2d : w.heap.size < (w2.drewN 1).heap.size := hz2
  have hBd := below_drewN hB 1
  clear hB X2 hz2
  go_region_held3 (fun w' => w'.cell? ⟨w.heap.size, 0, none⟩ = some (.int .i64 k) ∧ w'.cell? ⟨w.heap.size, 1, none⟩ = some (.int .i64 s) ∧ w'.cell? ⟨w.heap.size, 2, none⟩ = some (.int .i64 t) ∧ w'.cell? ⟨w.heap.size, 3, none⟩ = some (.int .i64 d) ∧ w'.cell? ⟨w.heap.size, 4, none⟩ = some (.int .i64 h) ∧ w'.cell? ⟨w.heap.size, 5, none⟩ = some (.int .u32 i))
    (first | exact X2d | exact X3 | exact X4 | exact X5 | exact X6)
    (first
    | (go_at_call 14; refine (right_any _ _ _ _ _ _ (w2.drewN 1) hr).mono ?_; rintro e w3 ⟨rfl, hb3⟩; have X3 := ins_below X2d hb3 hz2d; have hz3 := Nat.lt_of_lt_of_le hz2d hb3.size; have hB3 := band hBd hb3)
    | (go_at_call 19; refine (rright_any _ _ _ _ _ _ w3 hr).mono ?_; rintro e w4 ⟨rfl, hb4⟩; have X4 := ins_below X3 hb4 hz3; have hz4 := Nat.lt_of_lt_of_le hz3 hb4.size; have hB4 := band hB3 hb4)
    | (go_at_call 15; refine (cl_any _ _ _ _ _ _ w4).mono ?_; rintro e w5 ⟨rfl, hb5⟩; have X5 := ins_below X4 hb5 hz4; have hz5 := Nat.lt_of_lt_of_le hz4 hb5.size; have hB5 := band hB4 hb5)
    | (go_at_call 17; refine (rcl_any _ _ _ _ _ _ w5).mono ?_; rintro e w6 ⟨rfl, hb6⟩; have X6 := ins_below X5 hb6 hz5; have hB6 := band hB5 hb6))
  all_goals
    go_wp2
    go_ret
    exact ⟨rfl, hB6⟩
theorem inr_of (W : Nat) (hW : W < 4294967296) : InR (D.kW W) (D.fS W) (D.fT W) (D.fD W) (D.fH W) (D.fI W) := by
  obtain ⟨a, b, c, d, e⟩ := D.f_le W
  exact inr_nat (D.kW_le W) a b c d e
set_option maxRecDepth 100000 in
set_option maxHeartbeats 4000000 in
theorem words_any (W : Nat) (w : World) {gb go cap : Nat} (hL : Hid (Laid w gb go cap)) (hW : W < 4294967296) : Calls Tryd.prog 7 #[.int .u32 (W : Int)] w (TrB w) := by
  have OA := fun w => rof_any W w hW
  have OP := of_any W w hL hW
  have hr := Lib.hid (inr_of W hW)
  obtain ⟨k, HE0⟩ : ∃ k : Int, Hid (k = (D.kW W : Int)) := ⟨_, rfl⟩
  obtain ⟨s, HE1⟩ : ∃ k : Int, Hid (k = (D.fS W : Int)) := ⟨_, rfl⟩
  obtain ⟨t, HE2⟩ : ∃ k : Int, Hid (k = (D.fT W : Int)) := ⟨_, rfl⟩
  obtain ⟨d, HE3⟩ : ∃ k : Int, Hid (k = (D.fD W : Int)) := ⟨_, rfl⟩
  obtain ⟨h, HE4⟩ : ∃ k : Int, Hid (k = (D.fH W : Int)) := ⟨_, rfl⟩
  obtain ⟨i, HE5⟩ : ∃ k : Int, Hid (k = (D.fI W : Int)) := ⟨_, rfl⟩
  rw [← HE0.out, ← HE1.out, ← HE2.out, ← HE3.out, ← HE4.out, ← HE5.out] at OA OP hr
  clear HE0 HE1 HE2 HE3 HE4 HE5
  go_enter Tryd.func7, Tryd.ntmps7
  go_wp2_with fail
  refine OP.mono ?_
  rintro e w1 ⟨rfl, hb1⟩
  have X1 := Lib.hid (ins_new w1 k s t d h i)
  go_wp2_with fail
  have hB := band hb1 (below_new (w := w1) (o := .cells #[.int .i64 k, .int .i64 s, .int .i64 t, .int .i64 d, .int .i64 h, .int .u32 i] 27))
  have hL2 := Lib.hid (hL.out.below hB)
  have hz2 : w1.heap.size < (w1.alloc (.cells #[.int .i64 k, .int .i64 s, .int .i64 t, .int .i64 d, .int .i64 h, .int .u32 i] 27)).heap.size := by simp
  clear hb1 OP hL
  generalize w1.heap.size = b at X1 hz2 ⊢
  generalize w1.alloc (.cells #[.int .i64 k, .int .i64 s, .int .i64 t, .int .i64 d, .int .i64 h, .int .u32 i] 27) = w2 at X1 hB hL2 hz2 ⊢
  have X2d : Ins (w2.drewN 1) b k s t d h i := X1.out
  have hz2d : b < (w2.drewN 1).heap.size := hz2
  have hBd := below_drewN hB 1
  have hL2d := Lib.hid (hL2.out.below (below_drewN (Below.refl _ _) 1))
  clear hB X1 hz2 hL2
  go_region_held3 (fun w' => w'.cell? ⟨b, 0, none⟩ = some (.int .i64 k) ∧ w'.cell? ⟨b, 1, none⟩ = some (.int .i64 s) ∧ w'.cell? ⟨b, 2, none⟩ = some (.int .i64 t) ∧ w'.cell? ⟨b, 3, none⟩ = some (.int .i64 d) ∧ w'.cell? ⟨b, 4, none⟩ = some (.int .i64 h) ∧ w'.cell? ⟨b, 5, none⟩ = some (.int .u32 i))
    (first | exact X2d | exact X3 | exact X4 | exact X5 | exact X6)
    (first
    | (go_at_call 16; refine (OA (w2.drewN 1)).mono ?_; rintro e w3 ⟨rfl, hb3⟩; have X3 := ins_below X2d hb3 hz2d; have hz3 := Nat.lt_of_lt_of_le hz2d hb3.size; have hB3 := band hBd hb3; have hL3 := Lib.hid (hL2d.out.below hb3))
    | (go_at_call 15; refine (cl_any _ _ _ _ _ _ w3).mono ?_; rintro e w4 ⟨rfl, hb4⟩; have X4 := ins_below X3 hb4 hz3; have hz4 := Nat.lt_of_lt_of_le hz3 hb4.size; have hB4 := band hB3 hb4; have hL4 := Lib.hid (hL3.out.below hb4))
    | (go_at_call 17; refine (rcl_any _ _ _ _ _ _ w4).mono ?_; rintro e w5 ⟨rfl, hb5⟩; have X5 := ins_below X4 hb5 hz4; have hz5 := Nat.lt_of_lt_of_le hz4 hb5.size; have hB5 := band hB4 hb5; have hL5 := Lib.hid (hL4.out.below hb5))
    | (go_at_call 8; refine (insts_any _ _ _ _ _ _ w5 hL5 hr).mono ?_; rintro e w6 ⟨rfl, hb6⟩; have X6 := ins_below X5 hb6 hz5; have hB6 := band hB5 hb6))
  all_goals
    go_wp2
    go_ret
    exact ⟨rfl, hB6⟩
end Go.Proofs.YtngfjjgejpkmmaaDoor
