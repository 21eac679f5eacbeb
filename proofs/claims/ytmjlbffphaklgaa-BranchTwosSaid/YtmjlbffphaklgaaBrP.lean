/-
  Chapter 5: the walk of BranchTwos: it returns true, and nothing that was there has turned.
-/
import Derived.Test.YtmjlbffphaklgaaBrS
import Derived.Test.YtmjlbffphaklgaaAny
namespace Go.Proofs.Ytmjlbffphaklgaa
open Go.RowKit
set_option linter.unusedVariables false

abbrev Pr (w : World) (b : Nat) (x y : Int) : Prop := w.cell? ⟨b, 0, none⟩ = some (.int .i64 x) ∧ w.cell? ⟨b, 1, none⟩ = some (.int .i64 y)
theorem pr_new (w : World) (x y : Int) : Pr (w.alloc (.cells #[.int .i64 x, .int .i64 y] 32)) w.heap.size x y := by
  refine ⟨?_, ?_⟩ <;> simp
theorem pr_below {w w' : World} {b B : Nat} {x y : Int} (p : Pr w b x y) (hb : Below B w w') (hB : b < B) : Pr w' b x y :=
  ⟨(hb.cell (p := ⟨b, 0, none⟩) hB).trans p.1, (hb.cell (p := ⟨b, 1, none⟩) hB).trans p.2⟩
theorem bthen {a b c : World} (h : Below a.heap.size a b) (k : Below b.heap.size b c) : Below a.heap.size a c := below_then h k (Nat.le_refl _)
theorem pn0_br : ∀ j, j < 37 → ¬(pn0 j = 7 ∨ pn0 j = 8 ∨ (36 ≤ pn0 j ∧ pn0 j ≤ 45)) := by decide +kernel
theorem mi_le2 (k : Nat) (h : k < 78) : D.mI k ≤ 67108863 := by have := D.mi k h; omega
theorem two42 (s t : Int) : tkI 43 s t = !tkI 42 s t := by
  first | (simp [tkI, brK, tk]; done) | (simp [tkI, brK, tk, bne]; done)
theorem two36 (s t : Int) : tkI 37 s t = !tkI 36 s t := by
  first | (simp [tkI, brK, tk]; done) | (simp [tkI, brK, tk, bne]; done)
theorem two44 (s t : Int) : tkI 45 s t = !tkI 44 s t := by
  first | (simp [tkI, brK, tk]; done) | (simp [tkI, brK, tk, bne]; done)
theorem two38 (s t : Int) : tkI 39 s t = !tkI 38 s t := by
  first | (simp [tkI, brK, tk]; done) | (simp [tkI, brK, tk, bne]; done)

set_option maxRecDepth 100000 in
set_option maxHeartbeats 8000000 in
theorem twos_walk (K S T E G I R pc s t : Int) (w : World) (hx : Hid (InX K S T E G I R)) (p0 : 0 ≤ pc) (p1 : pc < 4294967296) (s0 : 0 ≤ s) (s1 : s < 4294967296) (t0 : 0 ≤ t) (t1 : t < 4294967296) : Calls Try.prog 5 #[.int .u32 pc, .int .u32 s, .int .u32 t, .agg #[.int .i64 K, .int .i64 S, .int .i64 T, .int .i64 E, .int .i64 G, .int .u32 I, .int .u32 R]] w (TrB w) := by
  have CT := Lib.hid (fun k w => tk_any k 0 0 0 0 0 s t w s0 s1 t0 t1)
  go_enter Try.func5, Try.ntmps5
  go_wp2
  have q0 : ((w.alloc (.cells #[.int .i64 K, .int .i64 S, .int .i64 T, .int .i64 E, .int .i64 G, .int .u32 I, .int .u32 R] 29)).alloc (.cells #[.int .i64 42, .int .i64 43, .int .i64 36, .int .i64 37, .int .i64 44, .int .i64 45, .int .i64 38, .int .i64 39] 32)).cell? ⟨w.heap.size + 1, 0, none⟩ = some (.int .i64 42) := by simp
  have q1 : ((w.alloc (.cells #[.int .i64 K, .int .i64 S, .int .i64 T, .int .i64 E, .int .i64 G, .int .u32 I, .int .u32 R] 29)).alloc (.cells #[.int .i64 42, .int .i64 43, .int .i64 36, .int .i64 37, .int .i64 44, .int .i64 45, .int .i64 38, .int .i64 39] 32)).cell? ⟨w.heap.size + 1, 1, none⟩ = some (.int .i64 43) := by simp
  have q2 : ((w.alloc (.cells #[.int .i64 K, .int .i64 S, .int .i64 T, .int .i64 E, .int .i64 G, .int .u32 I, .int .u32 R] 29)).alloc (.cells #[.int .i64 42, .int .i64 43, .int .i64 36, .int .i64 37, .int .i64 44, .int .i64 45, .int .i64 38, .int .i64 39] 32)).cell? ⟨w.heap.size + 1, 2, none⟩ = some (.int .i64 36) := by simp
  have q3 : ((w.alloc (.cells #[.int .i64 K, .int .i64 S, .int .i64 T, .int .i64 E, .int .i64 G, .int .u32 I, .int .u32 R] 29)).alloc (.cells #[.int .i64 42, .int .i64 43, .int .i64 36, .int .i64 37, .int .i64 44, .int .i64 45, .int .i64 38, .int .i64 39] 32)).cell? ⟨w.heap.size + 1, 3, none⟩ = some (.int .i64 37) := by simp
  have q4 : ((w.alloc (.cells #[.int .i64 K, .int .i64 S, .int .i64 T, .int .i64 E, .int .i64 G, .int .u32 I, .int .u32 R] 29)).alloc (.cells #[.int .i64 42, .int .i64 43, .int .i64 36, .int .i64 37, .int .i64 44, .int .i64 45, .int .i64 38, .int .i64 39] 32)).cell? ⟨w.heap.size + 1, 4, none⟩ = some (.int .i64 44) := by simp
  have q5 : ((w.alloc (.cells #[.int .i64 K, .int .i64 S, .int .i64 T, .int .i64 E, .int .i64 G, .int .u32 I, .int .u32 R] 29)).alloc (.cells #[.int .i64 42, .int .i64 43, .int .i64 36, .int .i64 37, .int .i64 44, .int .i64 45, .int .i64 38, .int .i64 39] 32)).cell? ⟨w.heap.size + 1, 5, none⟩ = some (.int .i64 45) := by simp
  have q6 : ((w.alloc (.cells #[.int .i64 K, .int .i64 S, .int .i64 T, .int .i64 E, .int .i64 G, .int .u32 I, .int .u32 R] 29)).alloc (.cells #[.int .i64 42, .int .i64 43, .int .i64 36, .int .i64 37, .int .i64 44, .int .i64 45, .int .i64 38, .int .i64 39] 32)).cell? ⟨w.heap.size + 1, 6, none⟩ = some (.int .i64 38) := by simp
  have q7 : ((w.alloc (.cells #[.int .i64 K, .int .i64 S, .int .i64 T, .int .i64 E, .int .i64 G, .int .u32 I, .int .u32 R] 29)).alloc (.cells #[.int .i64 42, .int .i64 43, .int .i64 36, .int .i64 37, .int .i64 44, .int .i64 45, .int .i64 38, .int .i64 39] 32)).cell? ⟨w.heap.size + 1, 7, none⟩ = some (.int .i64 39) := by simp
  have D0 : Drawn ((w.alloc (.cells #[.int .i64 K, .int .i64 S, .int .i64 T, .int .i64 E, .int .i64 G, .int .u32 I, .int .u32 R] 29)).alloc (.cells #[.int .i64 42, .int .i64 43, .int .i64 36, .int .i64 37, .int .i64 44, .int .i64 45, .int .i64 38, .int .i64 39] 32)) w.heap.size K S T E G I R := drawn_below (drawn_new w K S T E G I R) (below_new (w := w.alloc (.cells #[.int .i64 K, .int .i64 S, .int .i64 T, .int .i64 E, .int .i64 G, .int .u32 I, .int .u32 R] 29))) (by simp)
  have hT : w.heap.size + 1 < ((w.alloc (.cells #[.int .i64 K, .int .i64 S, .int .i64 T, .int .i64 E, .int .i64 G, .int .u32 I, .int .u32 R] 29)).alloc (.cells #[.int .i64 42, .int .i64 43, .int .i64 36, .int .i64 37, .int .i64 44, .int .i64 45, .int .i64 38, .int .i64 39] 32)).heap.size := by simp
  have hW : Below w.heap.size w ((w.alloc (.cells #[.int .i64 K, .int .i64 S, .int .i64 T, .int .i64 E, .int .i64 G, .int .u32 I, .int .u32 R] 29)).alloc (.cells #[.int .i64 42, .int .i64 43, .int .i64 36, .int .i64 37, .int .i64 44, .int .i64 45, .int .i64 38, .int .i64 39] 32)) := band (below_new (w := w)) (below_new (w := w.alloc (.cells #[.int .i64 K, .int .i64 S, .int .i64 T, .int .i64 E, .int .i64 G, .int .u32 I, .int .u32 R] 29)))
  generalize ((w.alloc (.cells #[.int .i64 K, .int .i64 S, .int .i64 T, .int .i64 E, .int .i64 G, .int .u32 I, .int .u32 R] 29)).alloc (.cells #[.int .i64 42, .int .i64 43, .int .i64 36, .int .i64 37, .int .i64 44, .int .i64 45, .int .i64 38, .int .i64 39] 32)) = wT at q0 q1 q2 q3 q4 q5 q6 q7 D0 hT hW ⊢
  go_loopw [20] (fun i wr => ∃ k : Nat, k ≤ 4 ∧ i = .int .i64 k ∧ Below wT.heap.size wT wr) (fun i _ => 4 - (intOf i).toNat)
  case atStart => exact ⟨0, by omega, rfl, Below.refl _ _⟩
  case round =>
    obtain ⟨k, hk, rfl, hb⟩ := hrel
    by_cases hlt : k < 4
    · have hc : k = 0 ∨ k = 1 ∨ k = 2 ∨ k = 3 := by omega
      rcases hc with hc | hc | hc | hc
      · obtain rfl : k = 0 := by omega
        have c0 := (hb.cell (p := ⟨w.heap.size + 1, 0, none⟩) hT).trans q0
        have c1 := (hb.cell (p := ⟨w.heap.size + 1, 1, none⟩) hT).trans q1
        have hsz := hb.size
        go_wp2_with fail
        clear c0 c1
        have X2d : Pr ((wr.alloc (.cells #[.int .i64 42, .int .i64 43] 32)).drewN 1) wr.heap.size 42 43 := pr_new wr 42 43
        have hz2d : wr.heap.size < ((wr.alloc (.cells #[.int .i64 42, .int .i64 43] 32)).drewN 1).heap.size := by simp
        have b2d := below_drewN (bthen hb (below_new (w := wr) (o := .cells #[.int .i64 42, .int .i64 43] 32))) 1
        obtain ⟨v, V⟩ : ∃ v, Hid (tkI 42 s t = v) := ⟨_, rfl⟩
        have V2 := Lib.hid (show tkI 43 s t = !v by rw [two42, V.out])
        cases v
        all_goals
          go_region_held3 (fun w' => w'.cell? ⟨wr.heap.size, 0, none⟩ = some (.int .i64 42) ∧ w'.cell? ⟨wr.heap.size, 1, none⟩ = some (.int .i64 43))
            (first | exact X2d | exact X3 | exact X4)
            (first
            | (go_at_call 10; (with_reducible refine (CT.out 42 _).mono ?_); rintro e w3 ⟨rfl, g3⟩; rw [V.out]; have X3 := pr_below X2d g3 hz2d; have hz3 := Nat.lt_of_lt_of_le hz2d g3.size; have b3 := bthen b2d g3)
            | (go_at_call 10; (with_reducible refine (CT.out 43 w3).mono ?_); rintro e w4 ⟨rfl, g4⟩; rw [V2.out]; have X4 := pr_below X3 g4 hz3; have b4 := bthen b3 g4))
          all_goals
            go_wp2
            go_roundw
            case rel => exact ⟨1, by omega, by rfl, b4⟩
            case measure => simp [intOf]
      · obtain rfl : k = 1 := by omega
        have c0 := (hb.cell (p := ⟨w.heap.size + 1, 2, none⟩) hT).trans q2
        have c1 := (hb.cell (p := ⟨w.heap.size + 1, 3, none⟩) hT).trans q3
        have hsz := hb.size
        go_wp2_with fail
        clear c0 c1
        have X2d : Pr ((wr.alloc (.cells #[.int .i64 36, .int .i64 37] 32)).drewN 1) wr.heap.size 36 37 := pr_new wr 36 37
        have hz2d : wr.heap.size < ((wr.alloc (.cells #[.int .i64 36, .int .i64 37] 32)).drewN 1).heap.size := by simp
        have b2d := below_drewN (bthen hb (below_new (w := wr) (o := .cells #[.int .i64 36, .int .i64 37] 32))) 1
        obtain ⟨v, V⟩ : ∃ v, Hid (tkI 36 s t = v) := ⟨_, rfl⟩
        have V2 := Lib.hid (show tkI 37 s t = !v by rw [two36, V.out])
        cases v
        all_goals
          go_region_held3 (fun w' => w'.cell? ⟨wr.heap.size, 0, none⟩ = some (.int .i64 36) ∧ w'.cell? ⟨wr.heap.size, 1, none⟩ = some (.int .i64 37))
            (first | exact X2d | exact X3 | exact X4)
            (first
            | (go_at_call 10; (with_reducible refine (CT.out 36 _).mono ?_); rintro e w3 ⟨rfl, g3⟩; rw [V.out]; have X3 := pr_below X2d g3 hz2d; have hz3 := Nat.lt_of_lt_of_le hz2d g3.size; have b3 := bthen b2d g3)
            | (go_at_call 10; (with_reducible refine (CT.out 37 w3).mono ?_); rintro e w4 ⟨rfl, g4⟩; rw [V2.out]; have X4 := pr_below X3 g4 hz3; have b4 := bthen b3 g4))
          all_goals
            go_wp2
            go_roundw
            case rel => exact ⟨2, by omega, by rfl, b4⟩
            case measure => simp [intOf]
      · obtain rfl : k = 2 := by omega
        have c0 := (hb.cell (p := ⟨w.heap.size + 1, 4, none⟩) hT).trans q4
        have c1 := (hb.cell (p := ⟨w.heap.size + 1, 5, none⟩) hT).trans q5
        have hsz := hb.size
        go_wp2_with fail
        clear c0 c1
        have X2d : Pr ((wr.alloc (.cells #[.int .i64 44, .int .i64 45] 32)).drewN 1) wr.heap.size 44 45 := pr_new wr 44 45
        have hz2d : wr.heap.size < ((wr.alloc (.cells #[.int .i64 44, .int .i64 45] 32)).drewN 1).heap.size := by simp
        have b2d := below_drewN (bthen hb (below_new (w := wr) (o := .cells #[.int .i64 44, .int .i64 45] 32))) 1
        obtain ⟨v, V⟩ : ∃ v, Hid (tkI 44 s t = v) := ⟨_, rfl⟩
        have V2 := Lib.hid (show tkI 45 s t = !v by rw [two44, V.out])
        cases v
        all_goals
          go_region_held3 (fun w' => w'.cell? ⟨wr.heap.size, 0, none⟩ = some (.int .i64 44) ∧ w'.cell? ⟨wr.heap.size, 1, none⟩ = some (.int .i64 45))
            (first | exact X2d | exact X3 | exact X4)
            (first
            | (go_at_call 10; (with_reducible refine (CT.out 44 _).mono ?_); rintro e w3 ⟨rfl, g3⟩; rw [V.out]; have X3 := pr_below X2d g3 hz2d; have hz3 := Nat.lt_of_lt_of_le hz2d g3.size; have b3 := bthen b2d g3)
            | (go_at_call 10; (with_reducible refine (CT.out 45 w3).mono ?_); rintro e w4 ⟨rfl, g4⟩; rw [V2.out]; have X4 := pr_below X3 g4 hz3; have b4 := bthen b3 g4))
          all_goals
            go_wp2
            go_roundw
            case rel => exact ⟨3, by omega, by rfl, b4⟩
            case measure => simp [intOf]
      · obtain rfl : k = 3 := by omega
        have c0 := (hb.cell (p := ⟨w.heap.size + 1, 6, none⟩) hT).trans q6
        have c1 := (hb.cell (p := ⟨w.heap.size + 1, 7, none⟩) hT).trans q7
        have hsz := hb.size
        go_wp2_with fail
        clear c0 c1
        have X2d : Pr ((wr.alloc (.cells #[.int .i64 38, .int .i64 39] 32)).drewN 1) wr.heap.size 38 39 := pr_new wr 38 39
        have hz2d : wr.heap.size < ((wr.alloc (.cells #[.int .i64 38, .int .i64 39] 32)).drewN 1).heap.size := by simp
        have b2d := below_drewN (bthen hb (below_new (w := wr) (o := .cells #[.int .i64 38, .int .i64 39] 32))) 1
        obtain ⟨v, V⟩ : ∃ v, Hid (tkI 38 s t = v) := ⟨_, rfl⟩
        have V2 := Lib.hid (show tkI 39 s t = !v by rw [two38, V.out])
        cases v
        all_goals
          go_region_held3 (fun w' => w'.cell? ⟨wr.heap.size, 0, none⟩ = some (.int .i64 38) ∧ w'.cell? ⟨wr.heap.size, 1, none⟩ = some (.int .i64 39))
            (first | exact X2d | exact X3 | exact X4)
            (first
            | (go_at_call 10; (with_reducible refine (CT.out 38 _).mono ?_); rintro e w3 ⟨rfl, g3⟩; rw [V.out]; have X3 := pr_below X2d g3 hz2d; have hz3 := Nat.lt_of_lt_of_le hz2d g3.size; have b3 := bthen b2d g3)
            | (go_at_call 10; (with_reducible refine (CT.out 39 w3).mono ?_); rintro e w4 ⟨rfl, g4⟩; rw [V2.out]; have X4 := pr_below X3 g4 hz3; have b4 := bthen b3 g4))
          all_goals
            go_wp2
            go_roundw
            case rel => exact ⟨4, by omega, by rfl, b4⟩
            case measure => simp [intOf]
    · have hkd : decide ((k : Int) < 4) = false := by simp; omega
      have D1 := drawn_below D0 hb (by omega)
      have hW1 := hW.trans (hb.mono hW.size)
      clear q0 q1 q2 q3 q4 q5 q6 q7 D0 hb hT hW hlt
      obtain ⟨d0, d1, d2, d3, d4, d5, d6⟩ := D1
      go_wp2_with fail
      clear d0 d1 d2 d3 d4 d5 d6
      refine (plain_p_any _ _ _ _ _ _ _ _ hx).mono ?_
      rintro e w1 ⟨m, m1, a, b, c, h, i, rfl, l1, l2, l3, l4, l5, hb1⟩
      have hB1 := below_then hW1 hb1 (Nat.le_refl _)
      have hi := mi_le2 (pn0 m) (by have := (pn0_r m m1).2; omega)
      have hbr : brK (pn0 m) = false := by have := pn0_br m m1; simp only [brK, decide_eq_false_iff_not]; omega
      have E1 := Lib.hid (show tkI (pn0 m) s t = false by simp [tkI, hbr])
      have E2 := Lib.hid (show tgI (pn0 m) i pc s = (pc + 4) % 4294967296 by simp [tgI, hbr])
      have E3 := Lib.hid (show lkB (pn0 m) = false by have := pn0_br m m1; simp only [lkB, decide_eq_false_iff_not]; omega)
      clear hb1 hW1 hbr
      go_wp2_with fail
      have Y1 := Lib.hid (ins_new w1 (pn0 m) a b c h i)
      have hB2 := below_then hB1 (below_new (w := w1) (o := .cells #[.int .i64 (pn0 m : Int), .int .i64 (a : Int), .int .i64 (b : Int), .int .i64 (c : Int), .int .i64 (h : Int), .int .u32 (i : Int)] 26)) (Nat.le_refl _)
      have hz2 : w1.heap.size < (w1.alloc (.cells #[.int .i64 (pn0 m : Int), .int .i64 (a : Int), .int .i64 (b : Int), .int .i64 (c : Int), .int .i64 (h : Int), .int .u32 (i : Int)] 26)).heap.size := by simp
      clear hB1
      refine (lk_any _ _ _ _ _ _ _).mono ?_
      rintro e w3 ⟨rfl, g3⟩
      rw [E3.out]
      have Y3 := Lib.hid (ins_below Y1.out g3 hz2)
      have hz3 := Nat.lt_of_lt_of_le hz2 g3.size
      have hB3 := below_then hB2 g3 (Nat.le_refl _)
      clear Y1 hB2 hz2 g3
      obtain ⟨x0, x1, x2, x3, x4, x5⟩ := Y3.out
      go_wp2_with fail
      clear x0 x1 x2 x3 x4 x5
      refine (tk_any _ _ _ _ _ _ _ _ _ s0 s1 t0 t1).mono ?_
      rintro e w4 ⟨rfl, g4⟩
      rw [E1.out]
      have Y4 := Lib.hid (ins_below Y3.out g4 hz3)
      have hz4 := Nat.lt_of_lt_of_le hz3 g4.size
      have hB4 := below_then hB3 g4 (Nat.le_refl _)
      clear Y3 hB3 hz3 g4
      obtain ⟨x0, x1, x2, x3, x4, x5⟩ := Y4.out
      go_wp2_with fail
      clear x0 x1 x2 x3 x4 x5
      refine (tg_any _ _ _ _ _ _ _ _ _ p0 p1 s0 s1 (by omega) (by omega)).mono ?_
      rintro e w5 ⟨rfl, g5⟩
      rw [E2.out]
      have hB5 := below_then hB4 g5 (Nat.le_refl _)
      clear Y4 hB4 hz4 g5
      go_wp2_with fail
      refine (known_any _).mono ?_
      rintro e w6 ⟨rfl, g6⟩
      go_wp2
      go_ret
      exact ⟨rfl, below_then hB5 g6 (Nat.le_refl _)⟩
end Go.Proofs.Ytmjlbffphaklgaa
