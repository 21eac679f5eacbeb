/-
  Chapter 4: the walks of AluNumbers and AluTells: each returns true, and nothing that was there has turned.
-/
import Derived.Test.YtfdgmenlefojbaaAluS
import Derived.Test.YtfdgmenlefojbaaAny
namespace Go.Proofs.Ytfdgmenlefojbaa
open Go.RowKit
set_option linter.unusedVariables false

set_option maxRecDepth 100000 in
set_option maxHeartbeats 4000000 in
theorem numbers_walk (w : World) : Calls Try.prog 3 #[] w (TrB w) := by
  go_enter Try.func3, Try.ntmps3
  go_wp2
  go_loopw [1] (fun i wr => ∃ k : Int, -1 ≤ k ∧ k ≤ 80 ∧ i = .int .i64 k ∧ Below w.heap.size w wr) (fun i _ => (80 - intOf i).toNat)
  case atStart => exact ⟨-1, by omega, by omega, rfl, Below.refl _ _⟩
  case round =>
    obtain ⟨k, k0, k1, rfl, hg⟩ := hrel
    by_cases hlt : k < 80
    · have hkd : decide (k < 80) = true := by simp; omega
      go_wp2
      go_loopw [2] (fun i wr => ∃ j : Int, 0 ≤ j ∧ j ≤ 13 ∧ i = .int .i64 j ∧ Below w.heap.size w wr) (fun i _ => (13 - intOf i).toNat)
      case atStart => exact ⟨0, by omega, by omega, rfl, hg⟩
      case round =>
        obtain ⟨j, j0, j1, rfl, hg2⟩ := hrel
        by_cases hlj : j < 13
        · have hjd : decide (j < 13) = true := by simp; omega
          go_wp2
          go_loopw [3] (fun i wr => ∃ m : Int, 0 ≤ m ∧ m ≤ 13 ∧ i = .int .i64 m ∧ Below w.heap.size w wr) (fun i _ => (13 - intOf i).toNat)
          case atStart => exact ⟨0, by omega, by omega, rfl, hg2⟩
          case round =>
            obtain ⟨m, m0, m1, rfl, hg3⟩ := hrel
            by_cases hlm : m < 13
            · have hmd : decide (m < 13) = true := by simp; omega
              go_wp2_with fail
              refine (edge_any _ _).mono ?_
              rintro e w2 ⟨v2, v20, v21, rfl, G2⟩
              have z := and16 v2 v20 v21
              go_wp2_with fail
              refine (edge_any _ _).mono ?_
              rintro e w3 ⟨v3, v30, v31, rfl, G3⟩
              go_wp2_with fail
              refine (edge_any _ _).mono ?_
              rintro e w4 ⟨v4, v40, v41, rfl, G4⟩
              go_wp2_with fail
              refine (same_any _ _ _ _ _ _ _ _ _ _ _ v30 v31 v40 v41 (by omega) (by omega) (by omega) (by omega) (Lib.hid (fun _ _ => by omega))).mono ?_
              rintro e w5 ⟨rfl, G5⟩
              go_wp2
              go_roundw
              case rel => exact ⟨m + 1, by omega, by omega, by go_num, below_then (below_then (below_then (below_then hg3 G2 (Nat.le_refl _)) G3 (Nat.le_refl _)) G4 (Nat.le_refl _)) G5 (Nat.le_refl _)⟩
              case measure => simp [intOf]; omega
            · have hmd : decide (m < 13) = false := by simp; omega
              go_wp2
              go_roundw
              case rel => exact ⟨j + 1, by omega, by omega, by go_num, hg3⟩
              case measure => simp [intOf]; omega
        · have hjd : decide (j < 13) = false := by simp; omega
          go_wp2
          go_roundw
          case rel => exact ⟨k + 1, by omega, by omega, by go_num, hg2⟩
          case measure => simp [intOf]; omega
    · have hkd : decide (k < 80) = false := by simp; omega
      go_wp2_with fail
      refine (known_any _).mono ?_
      rintro e w7 ⟨rfl, G7⟩
      go_wp2
      go_ret
      exact ⟨rfl, below_then hg G7 (Nat.le_refl _)⟩

theorem mi_imm : ∀ k, k < 78 → (50 ≤ k → k ≤ 53 → D.mI k = 65535) := by decide +kernel
theorem mh_le (k : Nat) (h : k < 78) : D.mH k ≤ 31 := by have := D.mh k h; omega
theorem mi_le (k : Nat) (h : k < 78) : D.mI k ≤ 67108863 := by have := D.mi k h; omega
theorem same_in (k a b c h i : Nat) (s t hi lo : Int) (w : World) (k2 : k ≤ 77) (lh : h ≤ D.mH k) (li : i ≤ D.mI k) (s0 : 0 ≤ s) (s1 : s < 4294967296) (t0 : 0 ≤ t) (t1 : t < 4294967296) : Calls Try.prog 7 #[.agg #[.int .i64 ((k : Int)), .int .i64 ((a : Int)), .int .i64 ((b : Int)), .int .i64 ((c : Int)), .int .i64 ((h : Int)), .int .u32 ((i : Int))], .int .u32 s, .int .u32 t, .int .u32 hi, .int .u32 lo] w (TrB w) := by
  have m1 := mh_le k (by omega)
  have m2 := mi_le k (by omega)
  exact same_any k a b c h i s t hi lo w s0 s1 t0 t1 (by omega) (by omega) (by omega) (by omega) (Lib.hid (fun h1 h2 => by have := mi_imm k (by omega) (by omega) (by omega); omega))

/-- what the walk of AluTells keeps in sight: the drawn instruction in block B, the one made of it in block C -/
abbrev Held (w : World) (B C : Nat) (K S T E G I R k a b c h i : Int) : Prop := Drawn w B K S T E G I R ∧ w.cell? ⟨C, 0, none⟩ = some (.int .i64 k) ∧ w.cell? ⟨C, 1, none⟩ = some (.int .i64 a) ∧ w.cell? ⟨C, 2, none⟩ = some (.int .i64 b) ∧ w.cell? ⟨C, 3, none⟩ = some (.int .i64 c) ∧ w.cell? ⟨C, 4, none⟩ = some (.int .i64 h) ∧ w.cell? ⟨C, 5, none⟩ = some (.int .u32 i)
theorem held_below {w w' : World} {B C : Nat} {K S T E G I R k a b c h i : Int} (x : Held w B C K S T E G I R k a b c h i) (hb : Below w.heap.size w w') (hB : B < w.heap.size) (hC : C < w.heap.size) : Held w' B C K S T E G I R k a b c h i :=
  ⟨drawn_below x.1 hb hB, ins_below x.2 hb hC⟩

set_option maxRecDepth 100000 in
set_option maxHeartbeats 8000000 in
theorem tells_walk (K S T E G I R s t hi lo p q : Int) (w : World) (hx : Hid (InX K S T E G I R)) (s0 : 0 ≤ s) (s1 : s < 4294967296) (t0 : 0 ≤ t) (t1 : t < 4294967296) : Calls Try.prog 4 #[.agg #[.int .i64 K, .int .i64 S, .int .i64 T, .int .i64 E, .int .i64 G, .int .u32 I, .int .u32 R], .int .u32 s, .int .u32 t, .int .u32 hi, .int .u32 lo, .int .i64 p, .int .i64 q] w (TrB w) := by
  go_enter Try.func4, Try.ntmps4
  go_wp2_with fail
  refine (any_any _ _ _ _ _ _ _ _ hx).mono ?_
  rintro e w1 ⟨k, k1, k2, a, b, c, h, i, rfl, l1, l2, l3, l4, l5, hb1⟩
  have X1 := Lib.hid (drawn_below (drawn_new w K S T E G I R) hb1 (by simp))
  have hz1 : w.heap.size < w1.heap.size := by have := hb1.size; simp at this; omega
  have hB1 := band (below_new (w := w)) hb1
  clear hb1
  go_wp2_with fail
  have Y1 := Lib.hid (ins_new w1 k a b c h i)
  have X2 := Lib.hid (drawn_below X1.out (below_new (w := w1) (o := .cells #[.int .i64 (k : Int), .int .i64 (a : Int), .int .i64 (b : Int), .int .i64 (c : Int), .int .i64 (h : Int), .int .u32 (i : Int)] 26)) hz1)
  have hB2 := band hB1 (below_new (w := w1) (o := .cells #[.int .i64 (k : Int), .int .i64 (a : Int), .int .i64 (b : Int), .int .i64 (c : Int), .int .i64 (h : Int), .int .u32 (i : Int)] 26))
  have hz2 : w1.heap.size < (w1.alloc (.cells #[.int .i64 (k : Int), .int .i64 (a : Int), .int .i64 (b : Int), .int .i64 (c : Int), .int .i64 (h : Int), .int .u32 (i : Int)] 26)).heap.size := by simp
  clear X1 hB1
  generalize w1.alloc (.cells #[.int .i64 (k : Int), .int .i64 (a : Int), .int .i64 (b : Int), .int .i64 (c : Int), .int .i64 (h : Int), .int .u32 (i : Int)] 26) = w2 at Y1 X2 hB2 hz2 ⊢
  generalize hB : w.heap.size = B at *
  generalize w1.heap.size = C at *
  have hBC : B < w2.heap.size := Nat.lt_trans hz1 hz2
  have Z2 : Held (w2.drewN 1) B C K S T E G I R k a b c h i := ⟨X2.out, Y1.out⟩
  have z2 : C < (w2.drewN 1).heap.size := hz2
  have y2 : B < (w2.drewN 1).heap.size := hBC
  have b2 := below_drewN hB2 1
  clear X2 Y1 hB2 hz2 hBC hz1
  have CS := Lib.hid (fun s t w s0 s1 t0 t1 => same_in k a b c h i s t hi lo w k2 l4 l5 s0 s1 t0 t1)
  have CE := Lib.hid (fun n w => edge_any n w)
  have CP := Lib.hid (fun w => plain_i_any K S T E G I R w hx)
  have CK := Lib.hid (fun w => known_any w)
  clear l1 l2 l3 l4 l5 hx
  go_region_held3 (fun w' => (w'.cell? ⟨B, 0, none⟩ = some (.int .i64 K) ∧ w'.cell? ⟨B, 1, none⟩ = some (.int .i64 S) ∧ w'.cell? ⟨B, 2, none⟩ = some (.int .i64 T) ∧ w'.cell? ⟨B, 3, none⟩ = some (.int .i64 E) ∧ w'.cell? ⟨B, 4, none⟩ = some (.int .i64 G) ∧ w'.cell? ⟨B, 5, none⟩ = some (.int .u32 I) ∧ w'.cell? ⟨B, 6, none⟩ = some (.int .u32 R)) ∧ w'.cell? ⟨C, 0, none⟩ = some (.int .i64 (k : Int)) ∧ w'.cell? ⟨C, 1, none⟩ = some (.int .i64 (a : Int)) ∧ w'.cell? ⟨C, 2, none⟩ = some (.int .i64 (b : Int)) ∧ w'.cell? ⟨C, 3, none⟩ = some (.int .i64 (c : Int)) ∧ w'.cell? ⟨C, 4, none⟩ = some (.int .i64 (h : Int)) ∧ w'.cell? ⟨C, 5, none⟩ = some (.int .u32 (i : Int)))
    (first | exact Z2 | exact Z3 | exact Z4 | exact Z5 | exact Z6 | exact Z7 | exact Z8 | exact Z9 | exact Z10)
    (first
    | (go_at_call 7; (with_reducible refine (CS.out _ _ _ s0 s1 t0 t1).mono ?_); rintro e w3 ⟨rfl, g3⟩; have Z3 := held_below Z2 g3 y2 z2; have z3 := Nat.lt_of_lt_of_le z2 g3.size; have y3 := Nat.lt_of_lt_of_le y2 g3.size; have b3 := below_then b2 g3 (Nat.le_of_eq hB.symm))
    | (go_at_call 8; (with_reducible refine (CE.out _ w3).mono ?_); rintro e w4 ⟨v4, v40, v41, rfl, g4⟩; have Z4 := held_below Z3 g4 y3 z3; have z4 := Nat.lt_of_lt_of_le z3 g4.size; have y4 := Nat.lt_of_lt_of_le y3 g4.size; have b4 := below_then b3 g4 (Nat.le_of_eq hB.symm))
    | (go_at_call 7; (with_reducible refine (CS.out _ _ w4 v40 v41 t0 t1).mono ?_); rintro e w5 ⟨rfl, g5⟩; have Z5 := held_below Z4 g5 y4 z4; have z5 := Nat.lt_of_lt_of_le z4 g5.size; have y5 := Nat.lt_of_lt_of_le y4 g5.size; have b5 := below_then b4 g5 (Nat.le_of_eq hB.symm))
    | (go_at_call 8; (with_reducible refine (CE.out _ w5).mono ?_); rintro e w6 ⟨v6, v60, v61, rfl, g6⟩; have Z6 := held_below Z5 g6 y5 z5; have z6 := Nat.lt_of_lt_of_le z5 g6.size; have y6 := Nat.lt_of_lt_of_le y5 g6.size; have b6 := below_then b5 g6 (Nat.le_of_eq hB.symm))
    | (go_at_call 7; (with_reducible refine (CS.out _ _ w6 s0 s1 v60 v61).mono ?_); rintro e w7 ⟨rfl, g7⟩; have Z7 := held_below Z6 g7 y6 z6; have z7 := Nat.lt_of_lt_of_le z6 g7.size; have y7 := Nat.lt_of_lt_of_le y6 g7.size; have b7 := below_then b6 g7 (Nat.le_of_eq hB.symm))
    | (go_at_call 11; (with_reducible refine (CP.out w7).mono ?_); rintro e w8 ⟨kk, kk1, kk2, aa, bb, cc, hh, ii, rfl, n1, n2, n3, n4, n5, g8⟩; have Z8 := held_below Z7 g8 y7 z7; have z8 := Nat.lt_of_lt_of_le z7 g8.size; have y8 := Nat.lt_of_lt_of_le y7 g8.size; have b8 := below_then b7 g8 (Nat.le_of_eq hB.symm))
    | (go_at_call 7; (with_reducible refine (same_in kk aa bb cc hh ii _ _ _ _ w8 kk2 n4 n5 s0 s1 t0 t1).mono ?_); rintro e w9 ⟨rfl, g9⟩; have Z9 := held_below Z8 g9 y8 z8; have z9 := Nat.lt_of_lt_of_le z8 g9.size; have y9 := Nat.lt_of_lt_of_le y8 g9.size; have b9 := below_then b8 g9 (Nat.le_of_eq hB.symm))
    | (go_at_call 9; (with_reducible refine (CK.out w9).mono ?_); rintro e w10 ⟨rfl, g10⟩; have Z10 := held_below Z9 g10 y9 z9; have b10 := below_then b9 g10 (Nat.le_of_eq hB.symm)))
  all_goals
    go_wp2
    go_ret
    exact ⟨rfl, by rw [hB]; exact b10⟩
end Go.Proofs.Ytfdgmenlefojbaa
