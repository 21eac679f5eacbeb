/-
  Chapter 5: the program's answers and the document's are the same (function 'same'); some runs (function 'known').
-/
import Derived.Test.YtmjlbffphaklgaaBrT
import Derived.Test.YtmjlbffphaklgaaBrL
import Derived.Test.YtmjlbffphaklgaaBrG
import Derived.Test.YtmjlbffphaklgaaBrR
namespace Go.Proofs.Ytmjlbffphaklgaa
open Go.RowKit
set_option linter.unusedVariables false

set_option maxHeartbeats 1000000 in
theorem known_any (w : World) : Calls Try.prog 8 #[] w (TrB w) := by
  have E1 := Lib.hid (show lkI 40 0 = 0 by decide)
  have E2 := Lib.hid (show lkB 40 = false by decide)
  have E3 := Lib.hid (show lkI 41 0 = 31 by decide)
  have E4 := Lib.hid (show lkB 41 = true by decide)
  have E5 := Lib.hid (show tgI 42 65535 8 0 = 8 by simp only [tgI, brK]; show (8 + 4 + W.sign 65535 16 * 4) % 4294967296 = 8; rw [sg_hi 65535 (by omega) (by omega)]; rfl)
  have E6 := Lib.hid (show tkI 40 0 0 = true by decide)
  have E7 := Lib.hid (show tkI 22 0 0 = false by decide)
  go_enter Try.func8, Try.ntmps8
  go_wp2_with fail
  refine (lk_any 40 0 0 0 0 0 _).mono ?_
  rintro e w1 ⟨rfl, hb1⟩
  rw [E1.out, E2.out]
  go_wp2_with fail
  refine (lk_any 41 0 0 0 0 0 _).mono ?_
  rintro e w2 ⟨rfl, hb2⟩
  rw [E3.out, E4.out]
  go_wp2_with fail
  refine (tg_any 42 0 0 0 0 65535 8 0 _ (by omega) (by omega) (by omega) (by omega) (by omega) (by omega)).mono ?_
  rintro e w3 ⟨rfl, hb3⟩
  rw [E5.out]
  go_wp2_with fail
  refine (tk_any 40 0 0 0 0 0 0 0 _ (by omega) (by omega) (by omega) (by omega)).mono ?_
  rintro e w4 ⟨rfl, hb4⟩
  rw [E6.out]
  go_wp2_with fail
  refine (tk_any 22 0 0 0 0 0 0 0 _ (by omega) (by omega) (by omega) (by omega)).mono ?_
  rintro e w5 ⟨rfl, hb5⟩
  rw [E7.out]
  go_wp2
  go_ret
  exact ⟨rfl, band (band (band (band hb1 hb2) hb3) hb4) hb5⟩

set_option maxRecDepth 100000 in
set_option maxHeartbeats 4000000 in
theorem same_any (k a b c h i pc s t : Int) (w : World) (p0 : 0 ≤ pc) (p1 : pc < 4294967296) (s0 : 0 ≤ s) (s1 : s < 4294967296) (t0 : 0 ≤ t) (t1 : t < 4294967296) (i0 : 0 ≤ i) (i1 : i < 67108864) : Calls Try.prog 7 #[.agg #[.int .i64 k, .int .i64 a, .int .i64 b, .int .i64 c, .int .i64 h, .int .u32 i], .int .u32 pc, .int .u32 s, .int .u32 t] w (TrB w) := by
  have C1 := Lib.hid (fun w => lk_any k a b c h i w)
  have C2 := Lib.hid (fun w => rlk_any k a b c h i w)
  have C3 := Lib.hid (fun w => tk_any k a b c h i s t w s0 s1 t0 t1)
  have C4 := Lib.hid (fun w => rtk_any k a b c h i s t w s0 s1 t0 t1)
  have C5 := Lib.hid (fun w => tg_any k a b c h i pc s w p0 p1 s0 s1 i0 i1)
  have C6 := Lib.hid (fun w => rtg_any k a b c h i pc s w p0 p1 s0 s1 i0 i1)
  generalize lkI k c = v1 at C1 C2
  generalize lkB k = v2 at C1 C2
  generalize tkI k s t = v3 at C3 C4
  generalize tgI k i pc s = v4 at C5 C6
  go_enter Try.func7, Try.ntmps7
  go_wp2_with fail
  have hB0 := below_new (w := w) (o := .cells #[.int .i64 k, .int .i64 a, .int .i64 b, .int .i64 c, .int .i64 h, .int .u32 i] 26)
  refine (C1.out _).mono ?_
  rintro e w1 ⟨rfl, hb1⟩
  have X1 := Lib.hid (ins_below (ins_new w k a b c h i) hb1 (by simp))
  have hz1 : w.heap.size < w1.heap.size := by have := hb1.size; simp at this; omega
  have hB1 := band hB0 hb1
  clear hb1 hB0
  obtain ⟨x0, x1, x2, x3, x4, x5⟩ := X1.out
  go_wp2_with fail
  clear x0 x1 x2 x3 x4 x5
  refine (C2.out _).mono ?_
  rintro e w2 ⟨rfl, hb2⟩
  have X2 := Lib.hid (ins_below X1.out hb2 hz1)
  have hz2 : w.heap.size < w2.heap.size := by have := hb2.size; omega
  have hB2 := band hB1 hb2
  clear hb2 hB1 X1 hz1
  go_wp2_with fail
  have X4d : Ins (w2.drewN 1) w.heap.size k a b c h i := X2.out
  have hz4d : w.heap.size < (w2.drewN 1).heap.size := hz2
  have hB4d := below_drewN hB2 1
  clear hB2 X2 hz2
  go_region_held3 (fun w' => w'.cell? ⟨w.heap.size, 0, none⟩ = some (.int .i64 k) ∧ w'.cell? ⟨w.heap.size, 1, none⟩ = some (.int .i64 a) ∧ w'.cell? ⟨w.heap.size, 2, none⟩ = some (.int .i64 b) ∧ w'.cell? ⟨w.heap.size, 3, none⟩ = some (.int .i64 c) ∧ w'.cell? ⟨w.heap.size, 4, none⟩ = some (.int .i64 h) ∧ w'.cell? ⟨w.heap.size, 5, none⟩ = some (.int .u32 i))
    (first | exact X4d | exact X5 | exact X6 | exact X7 | exact X8)
    (first
    | (go_at_call 10; refine (C3.out (w2.drewN 1)).mono ?_; rintro e w5 ⟨rfl, hb5⟩; have X5 := ins_below X4d hb5 hz4d; have hz5 := Nat.lt_of_lt_of_le hz4d hb5.size; have hB5 := band hB4d hb5)
    | (go_at_call 15; refine (C4.out w5).mono ?_; rintro e w6 ⟨rfl, hb6⟩; have X6 := ins_below X5 hb6 hz5; have hz6 := Nat.lt_of_lt_of_le hz5 hb6.size; have hB6 := band hB5 hb6)
    | (go_at_call 13; refine (C5.out w6).mono ?_; rintro e w7 ⟨rfl, hb7⟩; have X7 := ins_below X6 hb7 hz6; have hz7 := Nat.lt_of_lt_of_le hz6 hb7.size; have hB7 := band hB6 hb7)
    | (go_at_call 16; refine (C6.out w7).mono ?_; rintro e w8 ⟨rfl, hb8⟩; have X8 := ins_below X7 hb8 hz7; have hB8 := band hB7 hb8))
  all_goals
    go_wp2
    go_ret
    exact ⟨rfl, hB8⟩
end Go.Proofs.Ytmjlbffphaklgaa
