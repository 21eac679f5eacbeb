/-
  The walk of DecodeFields: it returns true, and nothing that was there has turned.
-/
import Derived.Test.YtngfjjgejpkmmaaDoorBack3
namespace Go.Proofs.YtngfjjgejpkmmaaDoor
open Go.RowKit
set_option linter.unusedVariables false

theorem bits_u32' (o : BinOp) (a b : Int) : 0 ≤ bits o .u32 a b ∧ bits o .u32 a b < 4294967296 := rng_u32 (wf_bits o .u32 a b)
/-- Of, of whatever word: fields that are right for its Kind -/
def OfP (w : World) (e : Ending) (w' : World) : Prop :=
  ∃ k s t d h i : Nat, e = .returned (.agg #[.int .i64 ((k : Int)), .int .i64 ((s : Int)), .int .i64 ((t : Int)), .int .i64 ((d : Int)), .int .i64 ((h : Int)), .int .u32 ((i : Int))]) ∧ k ≤ 77 ∧ s ≤ D.mS k ∧ t ≤ D.mT k ∧ d ≤ D.mD k ∧ h ≤ D.mH k ∧ i ≤ D.mI k ∧ Below w.heap.size w w'
theorem of_int (v : Int) (w : World) {gb go cap : Nat} (hL : Hid (Laid w gb go cap)) (hv : 0 ≤ v ∧ v < 4294967296) : Calls Tryd.prog 13 #[.int .u32 v] w (OfP w) := by
  obtain ⟨V, rfl⟩ := Int.eq_ofNat_of_zero_le hv.1
  obtain ⟨a, b, c, d, e⟩ := D.f_le V
  exact (of_any V w hL (by omega)).mono fun e' w' ⟨h1, h2⟩ => ⟨_, _, _, _, _, _, h1, D.kW_le V, a, b, c, d, e, h2⟩
theorem wd_inj {k s t d h i k' s' t' d' h' i' : Nat} (a1 : 1 ≤ k) (a2 : k ≤ 77) (l1 : s ≤ D.mS k) (l2 : t ≤ D.mT k) (l3 : d ≤ D.mD k) (l4 : h ≤ D.mH k) (l5 : i ≤ D.mI k) (b1 : 1 ≤ k') (b2 : k' ≤ 77) (m1 : s' ≤ D.mS k') (m2 : t' ≤ D.mT k') (m3 : d' ≤ D.mD k') (m4 : h' ≤ D.mH k') (m5 : i' ≤ D.mI k')
    (e : D.wd k' s' t' d' h' i' = D.wd k s t d h i) : k' = k ∧ s' = s ∧ t' = t ∧ d' = d ∧ h' = h ∧ i' = i := by
  obtain ⟨x0, x1, x2, x3, x4, x5⟩ := D.back a1 (by omega) l1 l2 l3 l4 l5
  obtain ⟨y0, y1, y2, y3, y4, y5⟩ := D.back b1 (by omega) m1 m2 m3 m4 m5
  rw [e] at y0 y1 y2 y3 y4 y5
  exact ⟨y0.symm.trans x0, y1.symm.trans x1, y2.symm.trans x2, y3.symm.trans x3, y4.symm.trans x4, y5.symm.trans x5⟩
set_option maxRecDepth 100000 in
set_option maxHeartbeats 4000000 in
theorem fields_walk (K S T E G I R bit : Int) (w : World) {gb go cap : Nat} (hL : Hid (Laid w gb go cap)) (hx : Hid (InX K S T E G I R)) (b0 : -9223372036854775808 ≤ bit) (b1 : bit ≤ 9223372036854775807) :
    Calls Tryd.prog 6 #[.agg #[.int .i64 K, .int .i64 S, .int .i64 T, .int .i64 E, .int .i64 G, .int .u32 I, .int .u32 R], .int .i64 bit] w (TrB w) := by
  obtain ⟨tb0, tb1⟩ := tmod_pos bit 32 (by omega)
  have B0 : Below w.heap.size w (w.alloc (.cells #[.int .i64 K, .int .i64 S, .int .i64 T, .int .i64 E, .int .i64 G, .int .u32 I, .int .u32 R] 31)) := below_new
  obtain ⟨x0, x1, x2, x3, x4, x5, x6⟩ := drawn_new w K S T E G I R
  go_enter Tryd.func6, Tryd.ntmps6
  go_wp2_with fail
  clear x0 x1 x2 x3 x4 x5 x6
  refine (any_any _ _ _ _ _ _ _ _ hx).mono ?_
  rintro e w1 ⟨k, k1, k2, s, t, d, h, i, rfl, l1, l2, l3, l4, l5, hb1⟩
  have B1 := below_then (below_then B0 hb1 (Nat.le_refl _)) (below_new (w := w1) (o := (.cells #[.int .i64 (k : Int), .int .i64 (s : Int), .int .i64 (t : Int), .int .i64 (d : Int), .int .i64 (h : Int), .int .u32 (i : Int)] 27))) (Nat.le_refl _)
  have Y1 := Lib.hid (ins_new w1 k s t d h i)
  have L1 := Lib.hid (hL.out.below B1)
  have Z1 : w1.heap.size < (w1.alloc (.cells #[.int .i64 (k : Int), .int .i64 (s : Int), .int .i64 (t : Int), .int .i64 (d : Int), .int .i64 (h : Int), .int .u32 (i : Int)] 27)).heap.size := by simp
  clear B0 hb1
  go_wp2_with fail
  generalize w1.alloc (.cells #[.int .i64 (k : Int), .int .i64 (s : Int), .int .i64 (t : Int), .int .i64 (d : Int), .int .i64 (h : Int), .int .u32 (i : Int)] 27) = W1 at B1 Y1 L1 Z1 ⊢
  generalize w1.heap.size = b at Y1 Z1 ⊢
  refine (word_yes k s t d h i _ L1 k1 k2 l1 l2 l3 l4 l5).mono ?_
  rintro e w2 ⟨rfl, hb2⟩
  have B2 := below_then B1 hb2 (Nat.le_refl _)
  have Y2 := Lib.hid (ins_below Y1.out hb2 Z1)
  have L2 := Lib.hid (L1.out.below hb2)
  have Z2 := Nat.lt_of_lt_of_le Z1 hb2.size
  clear B1 Y1 L1 Z1 hb2
  obtain ⟨wv, HWV⟩ : ∃ wv : Nat, Hid (wv = D.wd k s t d h i) := ⟨_, rfl⟩
  rw [← HWV.out]
  go_wp2_with fail
  refine (of_int _ _ L2 (bits_u32' _ _ _)).mono ?_
  rintro e w3 ⟨k', s', t', d', h', i', rfl, q0, q1, q2, q3, q4, q5, hb3⟩
  have B3 := below_then B2 hb3 (Nat.le_refl _)
  have Y3 := Lib.hid (ins_below Y2.out hb3 Z2)
  have Z3 := Nat.lt_of_lt_of_le Z2 hb3.size
  clear B2 Y2 L2 Z2 hb3
  by_cases hz : k' = 0
  · subst hz
    have e0 : D.mS 0 = 0 := rfl
    have e1 : D.mT 0 = 0 := rfl
    have e2 : D.mD 0 = 0 := rfl
    have e3 : D.mH 0 = 0 := rfl
    have e4 : D.mI 0 = 0 := rfl
    obtain rfl : s' = 0 := by omega
    obtain rfl : t' = 0 := by omega
    obtain rfl : d' = 0 := by omega
    obtain rfl : h' = 0 := by omega
    obtain rfl : i' = 0 := by omega
    clear e0 e1 e2 e3 e4 q0 q1 q2 q3 q4 q5
    simp only [Int.natCast_zero]
    have B4 := below_then B3 (below_new (w := w3) (o := (.cells #[.int .i64 0, .int .i64 0, .int .i64 0, .int .i64 0, .int .i64 0, .int .u32 0] 27))) (Nat.le_refl _)
    have L4 := Lib.hid (hL.out.below B4)
    have J4 := Lib.hid (ins_new w3 0 0 0 0 0 0)
    have Z4 : w3.heap.size < (w3.alloc (.cells #[.int .i64 0, .int .i64 0, .int .i64 0, .int .i64 0, .int .i64 0, .int .u32 0] 27)).heap.size := by simp
    have Y4 := Lib.hid (ins_below Y3.out (below_new (w := w3) (o := (.cells #[.int .i64 0, .int .i64 0, .int .i64 0, .int .i64 0, .int .i64 0, .int .u32 0] 27))) Z3)
    have n0 : ((0 : Int) == (k : Int)) = false := by simp; omega
    have n1 : ¬ ((0 : Int) = (k : Int)) := by omega
    have n2 : ((0 : Nat) == k) = false := by simp; omega
    go_wp2_with fail
    refine (word_no 0 0 0 0 0 0 _ (Lib.hid zero_in) (Lib.hid (show D.rg 0 0 0 0 0 0 = false by decide +kernel))).mono ?_
    rintro e w4 ⟨rfl, hb4⟩
    obtain ⟨x0, x1, x2, x3, x4, x5⟩ := ins_below J4.out hb4 Z4
    obtain ⟨y0, y1, y2, y3, y4, y5⟩ := ins_below Y4.out hb4 (Nat.lt_trans Z3 Z4)
    have B5 := below_then B4 hb4 (Nat.le_refl _)
    have L5 := Lib.hid (L4.out.below hb4)
    go_wp2_with fail
    refine (known_any _ L5).mono ?_
    rintro e w5 ⟨rfl, hb5⟩
    go_wp2
    go_ret
    exact ⟨rfl, below_then B5 hb5 (Nat.le_refl _)⟩
  · have hz1 : 1 ≤ k' := by omega
    have HWD := Lib.hid (fun w (hl : Hid (Laid w gb go cap)) => word_yes k' s' t' d' h' i' w hl hz1 q0 q1 q2 q3 q4 q5)
    have HIN := Lib.hid (fun e => wd_inj k1 k2 l1 l2 l3 l4 l5 hz1 q0 q1 q2 q3 q4 q5 e)
    obtain ⟨wu, HWU⟩ : ∃ wu : Nat, Hid (wu = D.wd k' s' t' d' h' i') := ⟨_, rfl⟩
    rw [← HWU.out] at HWD
    rw [← HWU.out, ← HWV.out] at HIN
    have HSM : Hid (k' = k → s' = s → t' = t → d' = d → h' = h → i' = i → wu = wv) := by
      intro a b c d e f
      rw [HWU.out, HWV.out, a, b, c, d, e, f]
    clear hz q0 q1 q2 q3 q4 q5 l1 l2 l3 l4 l5 HWU HWV
    by_cases g0 : k' = k
    · subst g0
      by_cases g1 : s' = s
      · subst g1
        by_cases g2 : t' = t
        · subst g2
          by_cases g3 : d' = d
          · subst g3
            by_cases g4 : h' = h
            · subst g4
              by_cases g5 : i' = i
              · subst g5
                have hwe : wu = wv := HSM.out rfl rfl rfl rfl rfl rfl
                subst hwe
                clear HSM HIN
                have B4 := below_then B3 (below_new (w := w3) (o := (.cells #[.int .i64 (k' : Int), .int .i64 (s' : Int), .int .i64 (t' : Int), .int .i64 (d' : Int), .int .i64 (h' : Int), .int .u32 (i' : Int)] 27))) (Nat.le_refl _)
                have L4 := Lib.hid (hL.out.below B4)
                have J4 := Lib.hid (ins_new w3 (k' : Int) (s' : Int) (t' : Int) (d' : Int) (h' : Int) (i' : Int))
                have Z4 : w3.heap.size < (w3.alloc (.cells #[.int .i64 (k' : Int), .int .i64 (s' : Int), .int .i64 (t' : Int), .int .i64 (d' : Int), .int .i64 (h' : Int), .int .u32 (i' : Int)] 27)).heap.size := by simp
                have Y4 := Lib.hid (ins_below Y3.out (below_new (w := w3) (o := (.cells #[.int .i64 (k' : Int), .int .i64 (s' : Int), .int .i64 (t' : Int), .int .i64 (d' : Int), .int .i64 (h' : Int), .int .u32 (i' : Int)] 27))) Z3)
                go_wp2_with fail
                refine (HWD.out _ L4).mono ?_
                rintro e w4 ⟨rfl, hb4⟩
                obtain ⟨x0, x1, x2, x3, x4, x5⟩ := ins_below J4.out hb4 Z4
                obtain ⟨y0, y1, y2, y3, y4, y5⟩ := ins_below Y4.out hb4 (Nat.lt_trans Z3 Z4)
                have B5 := below_then B4 hb4 (Nat.le_refl _)
                have L5 := Lib.hid (L4.out.below hb4)
                go_wp2_with fail
                refine (known_any _ L5).mono ?_
                rintro e w5 ⟨rfl, hb5⟩
                go_wp2
                go_ret
                exact ⟨rfl, below_then B5 hb5 (Nat.le_refl _)⟩
              · have hne : ¬ (wu = wv) := fun e => g5 (HIN.out e).2.2.2.2.2
                have c0 : ((wu : Int) != (wv : Int)) = true := by simp; omega
                have c1 : (wu != wv) = true := by simp; omega
                have c2 : ((i' : Int) == (i : Int)) = false := by simp; omega
                have c3 : (i' == i) = false := by simp; omega
                clear HSM HIN
                have B4 := below_then B3 (below_new (w := w3) (o := (.cells #[.int .i64 (k' : Int), .int .i64 (s' : Int), .int .i64 (t' : Int), .int .i64 (d' : Int), .int .i64 (h' : Int), .int .u32 (i' : Int)] 27))) (Nat.le_refl _)
                have L4 := Lib.hid (hL.out.below B4)
                have J4 := Lib.hid (ins_new w3 (k' : Int) (s' : Int) (t' : Int) (d' : Int) (h' : Int) (i' : Int))
                have Z4 : w3.heap.size < (w3.alloc (.cells #[.int .i64 (k' : Int), .int .i64 (s' : Int), .int .i64 (t' : Int), .int .i64 (d' : Int), .int .i64 (h' : Int), .int .u32 (i' : Int)] 27)).heap.size := by simp
                have Y4 := Lib.hid (ins_below Y3.out (below_new (w := w3) (o := (.cells #[.int .i64 (k' : Int), .int .i64 (s' : Int), .int .i64 (t' : Int), .int .i64 (d' : Int), .int .i64 (h' : Int), .int .u32 (i' : Int)] 27))) Z3)
                go_wp2_with fail
                refine (HWD.out _ L4).mono ?_
                rintro e w4 ⟨rfl, hb4⟩
                obtain ⟨x0, x1, x2, x3, x4, x5⟩ := ins_below J4.out hb4 Z4
                obtain ⟨y0, y1, y2, y3, y4, y5⟩ := ins_below Y4.out hb4 (Nat.lt_trans Z3 Z4)
                have B5 := below_then B4 hb4 (Nat.le_refl _)
                have L5 := Lib.hid (L4.out.below hb4)
                go_wp2_with fail
                refine (known_any _ L5).mono ?_
                rintro e w5 ⟨rfl, hb5⟩
                go_wp2
                go_ret
                exact ⟨rfl, below_then B5 hb5 (Nat.le_refl _)⟩
            · have hne : ¬ (wu = wv) := fun e => g4 (HIN.out e).2.2.2.2.1
              have c0 : ((wu : Int) != (wv : Int)) = true := by simp; omega
              have c1 : (wu != wv) = true := by simp; omega
              have c2 : ((h' : Int) == (h : Int)) = false := by simp; omega
              have c3 : (h' == h) = false := by simp; omega
              clear HSM HIN
              have B4 := below_then B3 (below_new (w := w3) (o := (.cells #[.int .i64 (k' : Int), .int .i64 (s' : Int), .int .i64 (t' : Int), .int .i64 (d' : Int), .int .i64 (h' : Int), .int .u32 (i' : Int)] 27))) (Nat.le_refl _)
              have L4 := Lib.hid (hL.out.below B4)
              have J4 := Lib.hid (ins_new w3 (k' : Int) (s' : Int) (t' : Int) (d' : Int) (h' : Int) (i' : Int))
              have Z4 : w3.heap.size < (w3.alloc (.cells #[.int .i64 (k' : Int), .int .i64 (s' : Int), .int .i64 (t' : Int), .int .i64 (d' : Int), .int .i64 (h' : Int), .int .u32 (i' : Int)] 27)).heap.size := by simp
              have Y4 := Lib.hid (ins_below Y3.out (below_new (w := w3) (o := (.cells #[.int .i64 (k' : Int), .int .i64 (s' : Int), .int .i64 (t' : Int), .int .i64 (d' : Int), .int .i64 (h' : Int), .int .u32 (i' : Int)] 27))) Z3)
              go_wp2_with fail
              refine (HWD.out _ L4).mono ?_
              rintro e w4 ⟨rfl, hb4⟩
              obtain ⟨x0, x1, x2, x3, x4, x5⟩ := ins_below J4.out hb4 Z4
              obtain ⟨y0, y1, y2, y3, y4, y5⟩ := ins_below Y4.out hb4 (Nat.lt_trans Z3 Z4)
              have B5 := below_then B4 hb4 (Nat.le_refl _)
              have L5 := Lib.hid (L4.out.below hb4)
              go_wp2_with fail
              refine (known_any _ L5).mono ?_
              rintro e w5 ⟨rfl, hb5⟩
              go_wp2
              go_ret
              exact ⟨rfl, below_then B5 hb5 (Nat.le_refl _)⟩
          · have hne : ¬ (wu = wv) := fun e => g3 (HIN.out e).2.2.2.1
            have c0 : ((wu : Int) != (wv : Int)) = true := by simp; omega
            have c1 : (wu != wv) = true := by simp; omega
            have c2 : ((d' : Int) == (d : Int)) = false := by simp; omega
            have c3 : (d' == d) = false := by simp; omega
            clear HSM HIN
            have B4 := below_then B3 (below_new (w := w3) (o := (.cells #[.int .i64 (k' : Int), .int .i64 (s' : Int), .int .i64 (t' : Int), .int .i64 (d' : Int), .int .i64 (h' : Int), .int .u32 (i' : Int)] 27))) (Nat.le_refl _)
            have L4 := Lib.hid (hL.out.below B4)
            have J4 := Lib.hid (ins_new w3 (k' : Int) (s' : Int) (t' : Int) (d' : Int) (h' : Int) (i' : Int))
            have Z4 : w3.heap.size < (w3.alloc (.cells #[.int .i64 (k' : Int), .int .i64 (s' : Int), .int .i64 (t' : Int), .int .i64 (d' : Int), .int .i64 (h' : Int), .int .u32 (i' : Int)] 27)).heap.size := by simp
            have Y4 := Lib.hid (ins_below Y3.out (below_new (w := w3) (o := (.cells #[.int .i64 (k' : Int), .int .i64 (s' : Int), .int .i64 (t' : Int), .int .i64 (d' : Int), .int .i64 (h' : Int), .int .u32 (i' : Int)] 27))) Z3)
            go_wp2_with fail
            refine (HWD.out _ L4).mono ?_
            rintro e w4 ⟨rfl, hb4⟩
            obtain ⟨x0, x1, x2, x3, x4, x5⟩ := ins_below J4.out hb4 Z4
            obtain ⟨y0, y1, y2, y3, y4, y5⟩ := ins_below Y4.out hb4 (Nat.lt_trans Z3 Z4)
            have B5 := below_then B4 hb4 (Nat.le_refl _)
            have L5 := Lib.hid (L4.out.below hb4)
            go_wp2_with fail
            refine (known_any _ L5).mono ?_
            rintro e w5 ⟨rfl, hb5⟩
            go_wp2
            go_ret
            exact ⟨rfl, below_then B5 hb5 (Nat.le_refl _)⟩
        · have hne : ¬ (wu = wv) := fun e => g2 (HIN.out e).2.2.1
          have c0 : ((wu : Int) != (wv : Int)) = true := by simp; omega
          have c1 : (wu != wv) = true := by simp; omega
          have c2 : ((t' : Int) == (t : Int)) = false := by simp; omega
          have c3 : (t' == t) = false := by simp; omega
          clear HSM HIN
          have B4 := below_then B3 (below_new (w := w3) (o := (.cells #[.int .i64 (k' : Int), .int .i64 (s' : Int), .int .i64 (t' : Int), .int .i64 (d' : Int), .int .i64 (h' : Int), .int .u32 (i' : Int)] 27))) (Nat.le_refl _)
          have L4 := Lib.hid (hL.out.below B4)
          have J4 := Lib.hid (ins_new w3 (k' : Int) (s' : Int) (t' : Int) (d' : Int) (h' : Int) (i' : Int))
          have Z4 : w3.heap.size < (w3.alloc (.cells #[.int .i64 (k' : Int), .int .i64 (s' : Int), .int .i64 (t' : Int), .int .i64 (d' : Int), .int .i64 (h' : Int), .int .u32 (i' : Int)] 27)).heap.size := by simp
          have Y4 := Lib.hid (ins_below Y3.out (below_new (w := w3) (o := (.cells #[.int .i64 (k' : Int), .int .i64 (s' : Int), .int .i64 (t' : Int), .int .i64 (d' : Int), .int .i64 (h' : Int), .int .u32 (i' : Int)] 27))) Z3)
          go_wp2_with fail
          refine (HWD.out _ L4).mono ?_
          rintro e w4 ⟨rfl, hb4⟩
          obtain ⟨x0, x1, x2, x3, x4, x5⟩ := ins_below J4.out hb4 Z4
          obtain ⟨y0, y1, y2, y3, y4, y5⟩ := ins_below Y4.out hb4 (Nat.lt_trans Z3 Z4)
          have B5 := below_then B4 hb4 (Nat.le_refl _)
          have L5 := Lib.hid (L4.out.below hb4)
          go_wp2_with fail
          refine (known_any _ L5).mono ?_
          rintro e w5 ⟨rfl, hb5⟩
          go_wp2
          go_ret
          exact ⟨rfl, below_then B5 hb5 (Nat.le_refl _)⟩
      · have hne : ¬ (wu = wv) := fun e => g1 (HIN.out e).2.1
        have c0 : ((wu : Int) != (wv : Int)) = true := by simp; omega
        have c1 : (wu != wv) = true := by simp; omega
        have c2 : ((s' : Int) == (s : Int)) = false := by simp; omega
        have c3 : (s' == s) = false := by simp; omega
        clear HSM HIN
        have B4 := below_then B3 (below_new (w := w3) (o := (.cells #[.int .i64 (k' : Int), .int .i64 (s' : Int), .int .i64 (t' : Int), .int .i64 (d' : Int), .int .i64 (h' : Int), .int .u32 (i' : Int)] 27))) (Nat.le_refl _)
        have L4 := Lib.hid (hL.out.below B4)
        have J4 := Lib.hid (ins_new w3 (k' : Int) (s' : Int) (t' : Int) (d' : Int) (h' : Int) (i' : Int))
        have Z4 : w3.heap.size < (w3.alloc (.cells #[.int .i64 (k' : Int), .int .i64 (s' : Int), .int .i64 (t' : Int), .int .i64 (d' : Int), .int .i64 (h' : Int), .int .u32 (i' : Int)] 27)).heap.size := by simp
        have Y4 := Lib.hid (ins_below Y3.out (below_new (w := w3) (o := (.cells #[.int .i64 (k' : Int), .int .i64 (s' : Int), .int .i64 (t' : Int), .int .i64 (d' : Int), .int .i64 (h' : Int), .int .u32 (i' : Int)] 27))) Z3)
        go_wp2_with fail
        refine (HWD.out _ L4).mono ?_
        rintro e w4 ⟨rfl, hb4⟩
        obtain ⟨x0, x1, x2, x3, x4, x5⟩ := ins_below J4.out hb4 Z4
        obtain ⟨y0, y1, y2, y3, y4, y5⟩ := ins_below Y4.out hb4 (Nat.lt_trans Z3 Z4)
        have B5 := below_then B4 hb4 (Nat.le_refl _)
        have L5 := Lib.hid (L4.out.below hb4)
        go_wp2_with fail
        refine (known_any _ L5).mono ?_
        rintro e w5 ⟨rfl, hb5⟩
        go_wp2
        go_ret
        exact ⟨rfl, below_then B5 hb5 (Nat.le_refl _)⟩
    · have hne : ¬ (wu = wv) := fun e => g0 (HIN.out e).1
      have c0 : ((wu : Int) != (wv : Int)) = true := by simp; omega
      have c1 : (wu != wv) = true := by simp; omega
      have c2 : ((k' : Int) == (k : Int)) = false := by simp; omega
      have c3 : (k' == k) = false := by simp; omega
      clear HSM HIN
      have B4 := below_then B3 (below_new (w := w3) (o := (.cells #[.int .i64 (k' : Int), .int .i64 (s' : Int), .int .i64 (t' : Int), .int .i64 (d' : Int), .int .i64 (h' : Int), .int .u32 (i' : Int)] 27))) (Nat.le_refl _)
      have L4 := Lib.hid (hL.out.below B4)
      have J4 := Lib.hid (ins_new w3 (k' : Int) (s' : Int) (t' : Int) (d' : Int) (h' : Int) (i' : Int))
      have Z4 : w3.heap.size < (w3.alloc (.cells #[.int .i64 (k' : Int), .int .i64 (s' : Int), .int .i64 (t' : Int), .int .i64 (d' : Int), .int .i64 (h' : Int), .int .u32 (i' : Int)] 27)).heap.size := by simp
      have Y4 := Lib.hid (ins_below Y3.out (below_new (w := w3) (o := (.cells #[.int .i64 (k' : Int), .int .i64 (s' : Int), .int .i64 (t' : Int), .int .i64 (d' : Int), .int .i64 (h' : Int), .int .u32 (i' : Int)] 27))) Z3)
      go_wp2_with fail
      refine (HWD.out _ L4).mono ?_
      rintro e w4 ⟨rfl, hb4⟩
      obtain ⟨x0, x1, x2, x3, x4, x5⟩ := ins_below J4.out hb4 Z4
      obtain ⟨y0, y1, y2, y3, y4, y5⟩ := ins_below Y4.out hb4 (Nat.lt_trans Z3 Z4)
      have B5 := below_then B4 hb4 (Nat.le_refl _)
      have L5 := Lib.hid (L4.out.below hb4)
      go_wp2_with fail
      refine (known_any _ L5).mono ?_
      rintro e w5 ⟨rfl, hb5⟩
      go_wp2
      go_ret
      exact ⟨rfl, below_then B5 hb5 (Nat.le_refl _)⟩
end Go.Proofs.YtngfjjgejpkmmaaDoor
