/-
  Chapter 5: the walk of BranchTells: it returns true, and nothing that was there has turned.
-/
import Derived.Test.YtmjlbffphaklgaaBrS
import Derived.Test.YtmjlbffphaklgaaAny
namespace Go.Proofs.Ytmjlbffphaklgaa
open Go.RowKit
set_option linter.unusedVariables false

theorem mi_le (k : Nat) (h : k < 78) : D.mI k ≤ 67108863 := by have := D.mi k h; omega
theorem same_in (k a b c h i : Nat) (pc s t : Int) (w : World) (k2 : k ≤ 77) (li : i ≤ D.mI k) (p0 : 0 ≤ pc) (p1 : pc < 4294967296) (s0 : 0 ≤ s) (s1 : s < 4294967296) (t0 : 0 ≤ t) (t1 : t < 4294967296) : Calls Try.prog 7 #[.agg #[.int .i64 ((k : Int)), .int .i64 ((a : Int)), .int .i64 ((b : Int)), .int .i64 ((c : Int)), .int .i64 ((h : Int)), .int .u32 ((i : Int))], .int .u32 pc, .int .u32 s, .int .u32 t] w (TrB w) := by
  have m2 := mi_le k (by omega)
  exact same_any k a b c h i pc s t w p0 p1 s0 s1 t0 t1 (by omega) (by omega)

set_option maxRecDepth 100000 in
set_option maxHeartbeats 8000000 in
theorem tells_walk (K S T E G I R pc s t : Int) (w : World) (hx : Hid (InX K S T E G I R)) (p0 : 0 ≤ pc) (p1 : pc < 4294967296) (s0 : 0 ≤ s) (s1 : s < 4294967296) (t0 : 0 ≤ t) (t1 : t < 4294967296) : Calls Try.prog 4 #[.agg #[.int .i64 K, .int .i64 S, .int .i64 T, .int .i64 E, .int .i64 G, .int .u32 I, .int .u32 R], .int .u32 pc, .int .u32 s, .int .u32 t] w (TrB w) := by
  have P := and8 pc p0 p1
  have Q := and2 s s0 s1
  have V := and2 t t0 t1
  go_enter Try.func4, Try.ntmps4
  go_wp2_with fail
  refine (any_any _ _ _ _ _ _ _ _ hx).mono ?_
  rintro e w1 ⟨k, k1, k2, a, b, c, h, i, rfl, l1, l2, l3, l4, l5, hb1⟩
  have hB1 := band (below_new (w := w)) hb1
  clear hb1
  have CS := Lib.hid (fun pc s t w p0 p1 s0 s1 t0 t1 => same_in k a b c h i pc s t w k2 l5 p0 p1 s0 s1 t0 t1)
  go_wp2_with fail
  have Y1 := Lib.hid (ins_new w1 k a b c h i)
  have hB2 := band hB1 (below_new (w := w1) (o := .cells #[.int .i64 (k : Int), .int .i64 (a : Int), .int .i64 (b : Int), .int .i64 (c : Int), .int .i64 (h : Int), .int .u32 (i : Int)] 26))
  have hz2 : w1.heap.size < (w1.alloc (.cells #[.int .i64 (k : Int), .int .i64 (a : Int), .int .i64 (b : Int), .int .i64 (c : Int), .int .i64 (h : Int), .int .u32 (i : Int)] 26)).heap.size := by simp
  clear hB1 l1 l2 l3 l4 l5
  refine (CS.out _ _ _ _ p0 p1 s0 s1 t0 t1).mono ?_
  rintro e w3 ⟨rfl, g3⟩
  have Y3 := Lib.hid (ins_below Y1.out g3 hz2)
  have hz3 := Nat.lt_of_lt_of_le hz2 g3.size
  have hB3 := band hB2 g3
  clear Y1 hB2 hz2 g3
  obtain ⟨x0, x1, x2, x3, x4, x5⟩ := Y3.out
  go_wp2_with fail
  clear x0 x1 x2 x3 x4 x5
  refine (CS.out _ _ _ _ p0 p1 s0 s1 s0 s1).mono ?_
  rintro e w4 ⟨rfl, g4⟩
  have Y4 := Lib.hid (ins_below Y3.out g4 hz3)
  have hz4 := Nat.lt_of_lt_of_le hz3 g4.size
  have hB4 := band hB3 g4
  clear Y3 hB3 hz3 g4
  obtain ⟨x0, x1, x2, x3, x4, x5⟩ := Y4.out
  go_wp2_with fail
  clear x0 x1 x2 x3 x4 x5
  refine (CS.out _ _ _ _ (by omega) (by omega) (by omega) (by omega) (by omega) (by omega)).mono ?_
  rintro e w5 ⟨rfl, g5⟩
  have hB5 := band hB4 g5
  clear Y4 hB4 hz4 g5
  go_wp2_with fail
  refine (known_any _).mono ?_
  rintro e w6 ⟨rfl, g6⟩
  go_wp2
  go_ret
  exact ⟨rfl, band hB5 g6⟩
end Go.Proofs.Ytmjlbffphaklgaa
