/-
  The walk of DecodeTells: it returns true, and nothing that was there has turned.
-/
import Derived.Test.YtngfjjgejpkmmaaDoorCode
import Derived.Test.YtngfjjgejpkmmaaDoorKnown3
namespace Go.Proofs.YtngfjjgejpkmmaaDoor
open Go.RowKit
set_option linter.unusedVariables false

set_option maxRecDepth 100000 in
set_option maxHeartbeats 4000000 in
theorem tells_walk (a K S T E G I R k s t d h i : Int) (w : World) {gb go cap : Nat} (hL : Hid (Laid w gb go cap)) (a0 : 0 ≤ a) (a1 : a < 4294967296) (hx : Hid (InX K S T E G I R)) (hr : Hid (InR k s t d h i)) :
    Calls Tryd.prog 4 #[.int .u32 a, .agg #[.int .i64 K, .int .i64 S, .int .i64 T, .int .i64 E, .int .i64 G, .int .u32 I, .int .u32 R], .agg #[.int .i64 k, .int .i64 s, .int .i64 t, .int .i64 d, .int .i64 h, .int .u32 i]] w (TrB w) := by
  obtain ⟨A, rfl⟩ := Int.eq_ofNat_of_zero_le a0
  have hA : A < 4294967296 := by omega
  clear a0 a1
  have B0 : Below w.heap.size w ((w.alloc (.cells #[.int .i64 K, .int .i64 S, .int .i64 T, .int .i64 E, .int .i64 G, .int .u32 I, .int .u32 R] 31)).alloc (.cells #[.int .i64 k, .int .i64 s, .int .i64 t, .int .i64 d, .int .i64 h, .int .u32 i] 27)) := by
    have hb9 := Below.refl w.heap.size w
    (repeat' (first | (with_reducible exact hb9) | (with_reducible apply bel_set) | (with_reducible apply bel_alloc) | (with_reducible apply below_drewN) | (simp; done) | (simp; omega) | omega | (simp [World.setCell]; done) | (simp [World.setCell]; omega)))
  have X0 := Lib.hid (drawn_below (drawn_new w K S T E G I R) (below_new (w := w.alloc (.cells #[.int .i64 K, .int .i64 S, .int .i64 T, .int .i64 E, .int .i64 G, .int .u32 I, .int .u32 R] 31)) (o := (.cells #[.int .i64 k, .int .i64 s, .int .i64 t, .int .i64 d, .int .i64 h, .int .u32 i] 27))) (by simp))
  have Y0 := ins_new (w.alloc (.cells #[.int .i64 K, .int .i64 S, .int .i64 T, .int .i64 E, .int .i64 G, .int .u32 I, .int .u32 R] 31)) k s t d h i
  have Z0 : (w.alloc (.cells #[.int .i64 K, .int .i64 S, .int .i64 T, .int .i64 E, .int .i64 G, .int .u32 I, .int .u32 R] 31)).heap.size = w.heap.size + 1 := by simp
  have Z1 : w.heap.size + 1 < ((w.alloc (.cells #[.int .i64 K, .int .i64 S, .int .i64 T, .int .i64 E, .int .i64 G, .int .u32 I, .int .u32 R] 31)).alloc (.cells #[.int .i64 k, .int .i64 s, .int .i64 t, .int .i64 d, .int .i64 h, .int .u32 i] 27)).heap.size := by simp
  rw [Z0] at Y0
  have Y1 := Lib.hid Y0
  clear Y0 Z0
  go_enter Tryd.func4, Tryd.ntmps4
  go_wp2_with fail
  generalize (w.alloc (.cells #[.int .i64 K, .int .i64 S, .int .i64 T, .int .i64 E, .int .i64 G, .int .u32 I, .int .u32 R] 31)).alloc (.cells #[.int .i64 k, .int .i64 s, .int .i64 t, .int .i64 d, .int .i64 h, .int .u32 i] 27) = W0 at B0 X0 Y1 Z1 ⊢
  have L0 := Lib.hid (hL.out.below B0)
  refine (words_any A _ L0 hA).mono ?_
  rintro e w1 ⟨rfl, hb1⟩
  have X1 := Lib.hid (drawn_below X0.out hb1 (by omega)); have Y2 := Lib.hid (ins_below Y1.out hb1 Z1); have B1 := below_then B0 hb1 (Nat.le_refl _); have Z2 := Nat.lt_of_lt_of_le Z1 hb1.size; have L1 := Lib.hid (L0.out.below hb1)
  clear X0 Y1 B0 Z1 L0 hb1
  obtain ⟨x0, x1, x2, x3, x4, x5, x6⟩ := X1.out
  go_wp2_with fail
  clear x0 x1 x2 x3 x4 x5 x6
  refine (code_any _ _ _ _ _ _ _ _ hx).mono ?_
  rintro e w2 ⟨V, v0, v1, rfl, hb2⟩
  obtain ⟨VN, rfl⟩ := Int.eq_ofNat_of_zero_le v0
  have hV : VN < 4294967296 := by omega
  clear v0 v1
  have X2 := Lib.hid (drawn_below X1.out hb2 (by omega)); have Y3 := Lib.hid (ins_below Y2.out hb2 Z2); have B2 := below_then B1 hb2 (Nat.le_refl _); have Z3 := Nat.lt_of_lt_of_le Z2 hb2.size; have L2 := Lib.hid (L1.out.below hb2)
  clear X1 Y2 B1 Z2 L1 hb2
  go_wp2_with fail
  refine (words_any VN _ L2 hV).mono ?_
  rintro e w3 ⟨rfl, hb3⟩
  have X3 := Lib.hid (drawn_below X2.out hb3 (by omega)); have Y4 := Lib.hid (ins_below Y3.out hb3 Z3); have B3 := below_then B2 hb3 (Nat.le_refl _); have Z4 := Nat.lt_of_lt_of_le Z3 hb3.size; have L3 := Lib.hid (L2.out.below hb3)
  clear X2 Y3 B2 Z3 L2 hb3
  obtain ⟨x0, x1, x2, x3, x4, x5, x6⟩ := X3.out
  go_wp2_with fail
  clear x0 x1 x2 x3 x4 x5 x6
  refine (any_any _ _ _ _ _ _ _ _ hx).mono ?_
  rintro e w4 ⟨kk, k1, k2, s2, t2, d2, h2, i2, rfl, l1, l2, l3, l4, l5, hb4⟩
  have hr2 := Lib.hid (inr_nat k2 l1 l2 l3 l4 l5)
  have Y5 := Lib.hid (ins_below Y4.out hb4 Z4); have B4 := below_then B3 hb4 (Nat.le_refl _); have Z5 := Nat.lt_of_lt_of_le Z4 hb4.size; have L4 := Lib.hid (L3.out.below hb4)
  clear X3 Y4 B3 Z4 L3 hb4
  go_wp2_with fail
  refine (insts_any _ _ _ _ _ _ _ L4 hr2).mono ?_
  rintro e w5 ⟨rfl, hb5⟩
  have Y6 := Lib.hid (ins_below Y5.out hb5 Z5); have B5 := below_then B4 hb5 (Nat.le_refl _); have L5 := Lib.hid (L4.out.below hb5)
  clear Y5 B4 Z5 L4 hb5
  obtain ⟨x0, x1, x2, x3, x4, x5⟩ := Y6.out
  go_wp2_with fail
  clear x0 x1 x2 x3 x4 x5
  refine (insts_any _ _ _ _ _ _ _ L5 hr).mono ?_
  rintro e w6 ⟨rfl, hb6⟩
  have B6 := below_then B5 hb6 (Nat.le_refl _); have L6 := Lib.hid (L5.out.below hb6)
  go_wp2_with fail
  refine (known_any _ L6).mono ?_
  rintro e w7 ⟨rfl, hb7⟩
  have B7 := below_then B6 hb7 (Nat.le_refl _)
  go_wp2
  go_ret
  exact ⟨rfl, B7⟩
end Go.Proofs.YtngfjjgejpkmmaaDoor
