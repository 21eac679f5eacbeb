/-
  The walk of DecodeBack: it returns true, and nothing that was there has turned.
-/
import Derived.Test.YtngfjjgejpkmmaaDoorAny
import Derived.Test.YtngfjjgejpkmmaaDoorKnown3
namespace Go.Proofs.YtngfjjgejpkmmaaDoor
open Go.RowKit
set_option linter.unusedVariables false

/-- Of of the word of an instruction that is right is that instruction -/
theorem of_back {k s t d h i : Nat} (h1 : 1 ≤ k) (h2 : k ≤ 77) (l1 : s ≤ D.mS k) (l2 : t ≤ D.mT k) (l3 : d ≤ D.mD k) (l4 : h ≤ D.mH k) (l5 : i ≤ D.mI k) (w : World) {gb go cap : Nat} (hL : Hid (Laid w gb go cap)) :
    Calls Tryd.prog 13 #[.int .u32 (D.wd k s t d h i : Int)] w fun e w' => e = .returned (.agg #[.int .i64 ((k : Int)), .int .i64 ((s : Int)), .int .i64 ((t : Int)), .int .i64 ((d : Int)), .int .i64 ((h : Int)), .int .u32 ((i : Int))]) ∧ Below w.heap.size w w' := by
  have := of_any (D.wd k s t d h i) w hL (D.wd_lt (by omega) l1 l2 l3 l4 l5)
  obtain ⟨a, b, c, e, f, g⟩ := D.back h1 (by omega) l1 l2 l3 l4 l5
  rw [a, b, c, e, f, g] at this
  exact this
theorem right_yes {k s t d h i : Nat} (h1 : 1 ≤ k) (h2 : k ≤ 77) (l1 : s ≤ D.mS k) (l2 : t ≤ D.mT k) (l3 : d ≤ D.mD k) (l4 : h ≤ D.mH k) (l5 : i ≤ D.mI k) (w : World) :
    Calls Tryd.prog 14 #[.agg #[.int .i64 ((k : Int)), .int .i64 ((s : Int)), .int .i64 ((t : Int)), .int .i64 ((d : Int)), .int .i64 ((h : Int)), .int .u32 ((i : Int))]] w fun e w' => e = .returned (.bool true) ∧ Below w.heap.size w w' := by
  have := right_any k s t d h i w (Lib.hid (inr_nat h2 l1 l2 l3 l4 l5))
  rw [rg_nat h1 h2 l1 l2 l3 l4 l5] at this
  exact this
theorem zero_in : InR 0 0 0 0 0 0 := ⟨⟨by omega, by omega⟩, ⟨by omega, by omega⟩, ⟨by omega, by omega⟩, ⟨by omega, by omega⟩, ⟨by omega, by omega⟩, by omega, by omega⟩
theorem right_zero (w : World) : Calls Tryd.prog 14 #[.agg #[.int .i64 0, .int .i64 0, .int .i64 0, .int .i64 0, .int .i64 0, .int .u32 0]] w fun e w' => e = .returned (.bool false) ∧ Below w.heap.size w w' := by
  have := right_any 0 0 0 0 0 0 w (Lib.hid zero_in)
  rw [show D.rg 0 0 0 0 0 0 = false by decide +kernel] at this
  exact this
theorem class_zero (w : World) : Calls Tryd.prog 15 #[.agg #[.int .i64 0, .int .i64 0, .int .i64 0, .int .i64 0, .int .i64 0, .int .u32 0]] w fun e w' => e = .returned (.int .i64 6) ∧ Below w.heap.size w w' := by
  have := cl_any 0 0 0 0 0 0 w
  rw [show clsI 0 = 6 by decide +kernel] at this
  exact this
set_option maxRecDepth 100000 in
set_option maxHeartbeats 4000000 in
theorem back_walk (K S T E G I R a : Int) (w : World) {gb go cap : Nat} (hL : Hid (Laid w gb go cap)) (hx : Hid (InX K S T E G I R)) (a0 : 0 ≤ a) (a1 : a < 4294967296) :
    Calls Tryd.prog 5 #[.agg #[.int .i64 K, .int .i64 S, .int .i64 T, .int .i64 E, .int .i64 G, .int .u32 I, .int .u32 R], .int .u32 a] w (TrB w) := by
  obtain ⟨A, rfl⟩ := Int.eq_ofNat_of_zero_le a0
  have hA : A < 4294967296 := by omega
  clear a0 a1
  have B0 : Below w.heap.size w (w.alloc (.cells #[.int .i64 K, .int .i64 S, .int .i64 T, .int .i64 E, .int .i64 G, .int .u32 I, .int .u32 R] 31)) := below_new
  obtain ⟨x0, x1, x2, x3, x4, x5, x6⟩ := drawn_new w K S T E G I R
  go_enter Tryd.func5, Tryd.ntmps5
  go_wp2_with fail
  clear x0 x1 x2 x3 x4 x5 x6
  refine (any_any _ _ _ _ _ _ _ _ hx).mono ?_
  rintro e w1 ⟨k, k1, k2, s, t, d, h, i, rfl, l1, l2, l3, l4, l5, hb1⟩
  have B1 := below_then (below_then B0 hb1 (Nat.le_refl _)) (below_new (w := w1) (o := (.cells #[.int .i64 (k : Int), .int .i64 (s : Int), .int .i64 (t : Int), .int .i64 (d : Int), .int .i64 (h : Int), .int .u32 (i : Int)] 27))) (Nat.le_refl _)
  have Y1 := Lib.hid (ins_new w1 k s t d h i)
  have L1 := Lib.hid (hL.out.below B1)
  have Z1 : w1.heap.size < (w1.alloc (.cells #[.int .i64 (k : Int), .int .i64 (s : Int), .int .i64 (t : Int), .int .i64 (d : Int), .int .i64 (h : Int), .int .u32 (i : Int)] 27)).heap.size := by simp
  clear B0 hb1
  go_wp2_with fail
  generalize w1.alloc (.cells #[.int .i64 (k : Int), .int .i64 (s : Int), .int .i64 (t : Int), .int .i64 (d : Int), .int .i64 (h : Int), .int .u32 (i : Int)] 27) = W1 at B1 Y1 L1 Z1 ⊢
  generalize w1.heap.size = b at Y1 Z1 ⊢
  refine (word_yes k s t d h i _ L1 k1 k2 l1 l2 l3 l4 l5).mono ?_
  rintro e w2 ⟨rfl, hb2⟩
  have HOF := Lib.hid (fun w (hl : Hid (Laid w gb go cap)) => of_back k1 k2 l1 l2 l3 l4 l5 w hl)
  have HRT := Lib.hid (fun w => right_yes k1 k2 l1 l2 l3 l4 l5 w)
  generalize (D.wd k s t d h i : Int) = wv at HOF ⊢
  have B2 := below_then B1 hb2 (Nat.le_refl _)
  have Y2 : Ins w2 b k s t d h i := ins_below Y1.out hb2 Z1
  have Y2d : Ins w2.drew b k s t d h i := Y2
  clear Y2
  have L2d : Hid (Laid w2.drew gb go cap) := Lib.hid ((L1.out.below hb2).below (below_drewN (Below.refl _ _) 1))
  have Z2d : b < w2.drew.heap.size := Nat.lt_of_lt_of_le Z1 hb2.size
  have B2d : Below w.heap.size w w2.drew := B2.drew
  clear B1 Y1 L1 Z1 hb2 B2
  go_wp2_with fail
  go_region_held3 (fun w' => w'.cell? ⟨b, 0, none⟩ = some (.int .i64 (k : Int)) ∧ w'.cell? ⟨b, 1, none⟩ = some (.int .i64 (s : Int)) ∧ w'.cell? ⟨b, 2, none⟩ = some (.int .i64 (t : Int)) ∧ w'.cell? ⟨b, 3, none⟩ = some (.int .i64 (d : Int)) ∧ w'.cell? ⟨b, 4, none⟩ = some (.int .i64 (h : Int)) ∧ w'.cell? ⟨b, 5, none⟩ = some (.int .u32 (i : Int)))
    (first | exact Y2d | exact Y3 | exact Y4)
    (first
    | (go_at_call 13; refine (HOF.out w2.drew L2d).mono ?_; rintro e w3 ⟨rfl, hb3⟩; have Y3 := ins_below Y2d hb3 Z2d; have Z3 := Nat.lt_of_lt_of_le Z2d hb3.size; have B3 := below_then B2d hb3 (Nat.le_refl _); have L3 := Lib.hid (L2d.out.below hb3))
    | (go_at_call 14; refine (HRT.out w3).mono ?_; rintro e w4 ⟨rfl, hb4⟩; have Y4 := ins_below Y3 hb4 Z3; have B4 := below_then B3 hb4 (Nat.le_refl _); have L4 := Lib.hid (L3.out.below hb4)))
  all_goals
    go_wp2_with fail
    refine (of_any A _ L4 hA).mono ?_
    rintro e w5 ⟨rfl, hb5⟩
    clear HOF HRT Y2d L2d Z2d B2d Y3 Z3 B3 L3 Y4 hb3 hb4
    have kl := D.kW_le A
    by_cases hz : D.kW A = 0
    · obtain ⟨f1, f2, f3, f4, f5⟩ := D.f_zero hz
      rw [hz, f1, f2, f3, f4, f5]
      clear hz f1 f2 f3 f4 f5
      simp only [Int.natCast_zero]
      have B5 := below_then (below_then B4 hb5 (Nat.le_refl _)) (below_new (w := w5) (o := .cells #[.int .i64 0, .int .i64 0, .int .i64 0, .int .i64 0, .int .i64 0, .int .u32 0] 27)) (Nat.le_refl _)
      have L5 := Lib.hid (hL.out.below B5)
      have Y5 := Lib.hid (ins_new w5 0 0 0 0 0 0)
      have Z5 : w5.heap.size < (w5.alloc (.cells #[.int .i64 0, .int .i64 0, .int .i64 0, .int .i64 0, .int .i64 0, .int .u32 0] 27)).heap.size := by simp
      go_wp2_with fail
      refine (right_zero _).mono ?_
      rintro e w6 ⟨rfl, hb6⟩
      have B6 := below_then B5 hb6 (Nat.le_refl _)
      have L6 := Lib.hid (L5.out.below hb6)
      obtain ⟨x0, x1, x2, x3, x4, x5⟩ := ins_below Y5.out hb6 Z5
      go_wp2_with fail
      clear x0 x1 x2 x3 x4 x5
      refine (class_zero _).mono ?_
      rintro e w7 ⟨rfl, hb7⟩
      have B7 := below_then B6 hb7 (Nat.le_refl _)
      have L7 := Lib.hid (L6.out.below hb7)
      go_wp2_with fail
      refine (known_any _ L7).mono ?_
      rintro e w8 ⟨rfl, hb8⟩
      go_wp2
      go_ret
      exact ⟨rfl, below_then B7 hb8 (Nat.le_refl _)⟩
    · have hz1 : 1 ≤ D.kW A := by omega
      have hz2 : ((D.kW A : Int) == 0) = false := by simp; omega
      obtain ⟨f1, f2, f3, f4, f5⟩ := D.f_le A
      have B5 := below_then (below_then B4 hb5 (Nat.le_refl _)) (below_new (w := w5) (o := (.cells #[.int .i64 (D.kW A : Int), .int .i64 (D.fS A : Int), .int .i64 (D.fT A : Int), .int .i64 (D.fD A : Int), .int .i64 (D.fH A : Int), .int .u32 (D.fI A : Int)] 27))) (Nat.le_refl _)
      have L5 := Lib.hid (hL.out.below B5)
      have Y5 := Lib.hid (ins_new w5 (D.kW A : Int) (D.fS A : Int) (D.fT A : Int) (D.fD A : Int) (D.fH A : Int) (D.fI A : Int))
      have Z5 : w5.heap.size < (w5.alloc (.cells #[.int .i64 (D.kW A : Int), .int .i64 (D.fS A : Int), .int .i64 (D.fT A : Int), .int .i64 (D.fD A : Int), .int .i64 (D.fH A : Int), .int .u32 (D.fI A : Int)] 27)).heap.size := by simp
      have HOF := Lib.hid (fun w (hl : Hid (Laid w gb go cap)) => of_back hz1 kl f1 f2 f3 f4 f5 w hl)
      have HWD := Lib.hid (fun w (hl : Hid (Laid w gb go cap)) => word_yes _ _ _ _ _ _ w hl hz1 kl f1 f2 f3 f4 f5)
      generalize (D.wd (D.kW A) (D.fS A) (D.fT A) (D.fD A) (D.fH A) (D.fI A) : Int) = wu at HOF HWD
      clear hz f1 f2 f3 f4 f5
      go_wp2_with fail
      refine (HWD.out _ L5).mono ?_
      rintro e w6 ⟨rfl, hb6⟩
      have Y6 : Ins w6 w5.heap.size (D.kW A : Int) (D.fS A : Int) (D.fT A : Int) (D.fD A : Int) (D.fH A : Int) (D.fI A : Int) := ins_below Y5.out hb6 Z5
      have Y6d : Ins w6.drew w5.heap.size (D.kW A : Int) (D.fS A : Int) (D.fT A : Int) (D.fD A : Int) (D.fH A : Int) (D.fI A : Int) := Y6
      clear Y6
      have L6d : Hid (Laid w6.drew gb go cap) := Lib.hid ((L5.out.below hb6).below (below_drewN (Below.refl _ _) 1))
      have Z6d : w5.heap.size < w6.drew.heap.size := Nat.lt_of_lt_of_le Z5 hb6.size
      have B6d : Below w.heap.size w w6.drew := (below_then B5 hb6 (Nat.le_refl _)).drew
      clear B5 L5 Y5 Z5 hb6
      go_wp2_with fail
      generalize w5.heap.size = c at Y6d Z6d ⊢
      go_region_held3 (fun w' => w'.cell? ⟨c, 0, none⟩ = some (.int .i64 (D.kW A : Int)) ∧ w'.cell? ⟨c, 1, none⟩ = some (.int .i64 (D.fS A : Int)) ∧ w'.cell? ⟨c, 2, none⟩ = some (.int .i64 (D.fT A : Int)) ∧ w'.cell? ⟨c, 3, none⟩ = some (.int .i64 (D.fD A : Int)) ∧ w'.cell? ⟨c, 4, none⟩ = some (.int .i64 (D.fH A : Int)) ∧ w'.cell? ⟨c, 5, none⟩ = some (.int .u32 (D.fI A : Int)))
        (first | exact Y6d | exact Y7 | exact Y8)
        (first
        | (go_at_call 13; refine (HOF.out w6.drew L6d).mono ?_; rintro e w7 ⟨rfl, hb7⟩; have Y7 := ins_below Y6d hb7 Z6d; have Z7 := Nat.lt_of_lt_of_le Z6d hb7.size; have B7 := below_then B6d hb7 (Nat.le_refl _); have L7 := Lib.hid (L6d.out.below hb7))
        | (go_at_call 9; refine (known_any w7 L7).mono ?_; rintro e w8 ⟨rfl, hb8⟩; have Y8 := ins_below Y7 hb8 Z7; have B8 := below_then B7 hb8 (Nat.le_refl _)))
      all_goals
        go_wp2
        go_ret
        exact ⟨rfl, B8⟩
end Go.Proofs.YtngfjjgejpkmmaaDoor
