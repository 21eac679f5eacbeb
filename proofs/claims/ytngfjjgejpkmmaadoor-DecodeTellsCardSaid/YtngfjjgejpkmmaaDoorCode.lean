/-
  Chapter 3: instructions as they are drawn: function Code: a word of a program.
-/
import Derived.Test.YtngfjjgejpkmmaaDoorAny
namespace Go.Proofs.YtngfjjgejpkmmaaDoor
open Go.RowKit
set_option linter.unusedVariables false

/-- some word -/
def CodeP (w : World) (e : Ending) (w' : World) : Prop := ∃ V : Int, 0 ≤ V ∧ V < 4294967296 ∧ e = .returned (.int .u32 V) ∧ Below w.heap.size w w'
theorem wdI_rng (k s t d h i : Int) : 0 ≤ wdI k s t d h i ∧ wdI k s t d h i < 4294967296 := by
  cases hg : D.rg k s t d h i
  · simp [wdI, hg]
  · obtain ⟨K, S, T, E, G, I, rfl, rfl, rfl, rfl, rfl, rfl, a1, a2, a3, a4, a5, a6, a7⟩ := rg_out hg
    have := D.wd_lt (k := K) (by omega) a3 a4 a5 a6 a7
    have e : wdI K S T E G I = (D.wd K S T E G I : Int) := by simp [wdI, hg]
    rw [e]
    omega
theorem and_p (n : Int) (m p : Nat) (hm : m = 2 ^ p - 1) (hp : p ≤ 10) : bits .and .i64 n (m : Int) = n % ((2 ^ p : Nat) : Int) := by
  have h1 : 2 ^ p ≤ 2 ^ 10 := Nat.pow_le_pow_right (by omega) hp
  have hq : (2 ^ p : Nat) ∣ 2 ^ 64 := Nat.pow_dvd_pow 2 (by omega)
  have hpos : 0 < 2 ^ p := Nat.pow_pos (by omega)
  have e : (BitVec.ofInt 64 n &&& BitVec.ofInt 64 (m : Int)).toNat = (n % ((2 ^ p : Nat) : Int)).toNat := by
    rw [BitVec.toNat_and]
    have hm' : (BitVec.ofInt 64 (m : Int)).toNat = 2 ^ p - 1 := by rw [BitVec.toNat_ofInt]; omega
    rw [hm', Nat.and_two_pow_sub_one_eq_mod, BitVec.toNat_ofInt]
    have h2 : 0 ≤ n % ((2 ^ 64 : Nat) : Int) := Int.emod_nonneg _ (by decide)
    have h3 : n % ((2 ^ 64 : Nat) : Int) % ((2 ^ p : Nat) : Int) = n % ((2 ^ p : Nat) : Int) := Int.emod_emod_of_dvd _ (Int.natCast_dvd_natCast.2 hq)
    rw [← h3]
    obtain ⟨N, hN⟩ := Int.eq_ofNat_of_zero_le h2
    rw [hN, Int.toNat_natCast, ← Int.natCast_emod, Int.toNat_natCast]
  have h4 : 0 ≤ n % ((2 ^ p : Nat) : Int) := Int.emod_nonneg _ (by omega)
  have h5 : n % ((2 ^ p : Nat) : Int) < ((2 ^ p : Nat) : Int) := Int.emod_lt_of_pos _ (by omega)
  show IntKind.i64.wrap ((BitVec.ofInt 64 n &&& BitVec.ofInt 64 (m : Int)).toNat : Int) = _
  rw [e, IntKind.wrap_i64]
  have h6 : (2 ^ 10 : Nat) = 1024 := rfl
  omega
def pn4 (j : Nat) : Nat := (#[12, 13, 11, 9, 10, 2, 0, 14] : Array Nat).getD j 0
theorem pn4_r : ∀ j, j < 8 → pn4 j ≤ 31 := by decide +kernel
theorem bits_u32 (o : BinOp) (a b : Int) : 0 ≤ bits o .u32 a b ∧ bits o .u32 a b < 4294967296 := rng_u32 (wf_bits o .u32 a b)
theorem bel6 {B : Nat} {a w : World} (h : Below B a w) {b : Nat} (hb : B ≤ b) (u0 u1 u2 u3 u4 u5 : Value) : Below B a ((((((w.setCell ⟨b, 0, none⟩ u0).setCell ⟨b, 1, none⟩ u1).setCell ⟨b, 2, none⟩ u2).setCell ⟨b, 3, none⟩ u3).setCell ⟨b, 4, none⟩ u4).setCell ⟨b, 5, none⟩ u5) :=
  (((((h.setCell (p := ⟨b, 0, none⟩) hb u0).setCell (p := ⟨b, 1, none⟩) hb u1).setCell (p := ⟨b, 2, none⟩) hb u2).setCell (p := ⟨b, 3, none⟩) hb u3).setCell (p := ⟨b, 4, none⟩) hb u4).setCell (p := ⟨b, 5, none⟩) hb u5
theorem inr_small {k s t d h i : Int} (a : -1000 ≤ k ∧ k ≤ 1000) (b : -1000 ≤ s ∧ s ≤ 1000) (c : -1000 ≤ t ∧ t ≤ 1000) (e : -1000 ≤ d ∧ d ≤ 1000) (f : -1000 ≤ h ∧ h ≤ 1000) (g : 0 ≤ i ∧ i < 4294967296) : InR k s t d h i :=
  ⟨⟨by omega, by omega⟩, ⟨by omega, by omega⟩, ⟨by omega, by omega⟩, ⟨by omega, by omega⟩, ⟨by omega, by omega⟩, g.1, g.2⟩
set_option maxRecDepth 100000 in
set_option maxHeartbeats 8000000 in
theorem code_any (K S T E G I R : Int) (w : World) (hx : Hid (InX K S T E G I R)) : Calls Tryd.prog 10 #[.agg #[.int .i64 K, .int .i64 S, .int .i64 T, .int .i64 E, .int .i64 G, .int .u32 I, .int .u32 R]] w (CodeP w) := by
  have WI := fun w => within_eq K 1048576 w (by omega) (by omega) hx.out.k.1 hx.out.k.2
  obtain ⟨v, hv⟩ := Int.eq_ofNat_of_zero_le (wiF_rng K 1048576 (by omega)).1
  rw [hv] at WI
  have hv1 : v ≤ 1048576 := by have := (wiF_rng K 1048576 (by omega)).2; omega
  clear hv
  have HW := Lib.hid WI
  clear WI
  have X0 := drawn_new w K S T E G I R
  have B0 : Below w.heap.size w (w.alloc (.cells #[.int .i64 K, .int .i64 S, .int .i64 T, .int .i64 E, .int .i64 G, .int .u32 I, .int .u32 R] 31)) := below_new
  have Z0 : w.heap.size < (w.alloc (.cells #[.int .i64 K, .int .i64 S, .int .i64 T, .int .i64 E, .int .i64 G, .int .u32 I, .int .u32 R] 31)).heap.size := by simp
  obtain ⟨x0, x1, x2, x3, x4, x5, x6⟩ := X0
  go_enter Tryd.func10, Tryd.ntmps10
  go_wp2_with fail
  refine (HW.out _).mono ?_
  rintro e w' ⟨rfl, rfl⟩
  go_wp2_with fail
  clear x0 x1 x2 x3 x4 x5 x6
  refine (plain_i_any _ _ _ _ _ _ _ _ hx).mono ?_
  rintro e w1 ⟨k0, kl, kh, s0, t0, d0, h0, i0, rfl, l1, l2, l3, l4, l5, hb1⟩
  have a1 := D.ms k0 (by omega); have a2 := D.mt k0 (by omega); have a3 := D.md k0 (by omega); have a4 := D.mh k0 (by omega); have a5 := D.mi k0 (by omega)
  have g1 : s0 ≤ 31 := by omega
  have g2 : t0 ≤ 31 := by omega
  have g3 : d0 ≤ 31 := by omega
  have g4 : h0 ≤ 31 := by omega
  have g5 : i0 ≤ 67108863 := by omega
  clear a1 a2 a3 a4 a5 l1 l2 l3 l4 l5
  have X1 := Lib.hid (drawn_below (drawn_below (drawn_new w K S T E G I R) hb1 Z0) (below_new (w := w1) (o := (.cells #[.int .i64 (k0 : Int), .int .i64 (s0 : Int), .int .i64 (t0 : Int), .int .i64 (d0 : Int), .int .i64 (h0 : Int), .int .u32 (i0 : Int)] 27))) (Nat.lt_of_lt_of_le Z0 hb1.size))
  have R1 := ins_row w1 k0 s0 t0 d0 h0 i0
  have B1 := below_then (below_then B0 hb1 (Nat.le_refl _)) (below_new (w := w1) (o := (.cells #[.int .i64 (k0 : Int), .int .i64 (s0 : Int), .int .i64 (t0 : Int), .int .i64 (d0 : Int), .int .i64 (h0 : Int), .int .u32 (i0 : Int)] 27))) (Nat.le_refl _)
  have Z1 : w.heap.size < w1.heap.size := Nat.lt_of_lt_of_le Z0 hb1.size
  have Z2 : w1.heap.size < (w1.alloc (.cells #[.int .i64 (k0 : Int), .int .i64 (s0 : Int), .int .i64 (t0 : Int), .int .i64 (d0 : Int), .int .i64 (h0 : Int), .int .u32 (i0 : Int)] 27)).heap.size := by simp
  have Z3 : (w1.alloc (.cells #[.int .i64 (k0 : Int), .int .i64 (s0 : Int), .int .i64 (t0 : Int), .int .i64 (d0 : Int), .int .i64 (h0 : Int), .int .u32 (i0 : Int)] 27)).heap.size = w1.heap.size + 1 := by simp
  clear hb1 B0 Z0
  have hr : v % 16 = 0 ∨ v % 16 = 1 ∨ v % 16 = 2 ∨ v % 16 = 3 ∨ v % 16 = 4 ∨ v % 16 = 5 ∨ v % 16 = 6 ∨ v % 16 = 7 ∨ v % 16 = 8 ∨ v % 16 = 9 ∨ v % 16 = 10 ∨ v % 16 = 11 ∨ v % 16 = 12 ∨ v % 16 = 13 ∨ v % 16 = 14 ∨ v % 16 = 15 := by omega
  have HX0 := hx.out.r0
  have HX1 := hx.out.r1
  rcases hr with hr | hr | hr | hr | hr | hr | hr | hr | hr | hr | hr | hr | hr | hr | hr | hr
  · have hq : (v : Int) % 16 = 0 := by omega
    clear hr
    obtain ⟨y0, y1, y2, y3, y4, y5, y6⟩ := X1.out
    go_wp2
    go_ret
    exact ⟨R, HX0, HX1, rfl, B1⟩
  · have hq : (v : Int) % 16 = 1 := by omega
    clear hr
    obtain ⟨y0, y1, y2, y3, y4, y5, y6⟩ := X1.out
    go_wp2
    go_ret
    exact ⟨R, HX0, HX1, rfl, B1⟩
  · have hq : (v : Int) % 16 = 2 := by omega
    clear hr
    obtain ⟨y0, y1, y2, y3, y4, y5, y6⟩ := X1.out
    go_wp2_with fail
    clear y0 y1 y2 y3 y4 y5 y6
    refine (any_any _ _ _ _ _ _ _ _ hx).mono ?_
    rintro e w2 ⟨k, u1, u2, s, t, d, h, i, rfl, l1, l2, l3, l4, l5, hb2⟩
    have a1 := D.ms k (by omega); have a2 := D.mt k (by omega); have a3 := D.md k (by omega); have a4 := D.mh k (by omega); have a5 := D.mi k (by omega)
    obtain ⟨z3, c0, c1, c2, c3, c4, c5⟩ := row_one (row_below R1 hb2 Z2)
    have B2 := below_then B1 hb2 (Nat.le_refl _)
    have hz2 : w1.heap.size < w2.heap.size := Nat.lt_of_lt_of_le Z2 hb2.size
    clear R1 X1
    go_wp2_with fail
    refine (rword_any _ _ _ _ _ _ _ (Lib.hid (inr_small (by omega) (by omega) (by omega) (by omega) (by omega) (by omega)))).mono ?_
    rintro e w9 ⟨rfl, hb9⟩
    go_wp2
    go_ret
    exact ⟨_, (wdI_rng _ _ _ _ _ _).1, (wdI_rng _ _ _ _ _ _).2, rfl, below_then (by (repeat' (first | (with_reducible exact B2) | (with_reducible apply bel_set) | (with_reducible apply bel_alloc) | (with_reducible apply below_drewN) | (simp; done) | (simp; omega) | omega | (simp [World.setCell]; done) | (simp [World.setCell]; omega)))) hb9 (Nat.le_refl _)⟩
  · have hq : (v : Int) % 16 = 3 := by omega
    clear hr
    obtain ⟨y0, y1, y2, y3, y4, y5, y6⟩ := X1.out
    go_wp2_with fail
    clear y0 y1 y2 y3 y4 y5 y6
    refine (any_any _ _ _ _ _ _ _ _ hx).mono ?_
    rintro e w2 ⟨k, u1, u2, s, t, d, h, i, rfl, l1, l2, l3, l4, l5, hb2⟩
    have a1 := D.ms k (by omega); have a2 := D.mt k (by omega); have a3 := D.md k (by omega); have a4 := D.mh k (by omega); have a5 := D.mi k (by omega)
    obtain ⟨z3, c0, c1, c2, c3, c4, c5⟩ := row_one (row_below R1 hb2 Z2)
    have B2 := below_then B1 hb2 (Nat.le_refl _)
    have hz2 : w1.heap.size < w2.heap.size := Nat.lt_of_lt_of_le Z2 hb2.size
    clear R1 X1
    go_wp2_with fail
    refine (rword_any _ _ _ _ _ _ _ (Lib.hid (inr_small (by omega) (by omega) (by omega) (by omega) (by omega) (by omega)))).mono ?_
    rintro e w9 ⟨rfl, hb9⟩
    go_wp2
    go_ret
    exact ⟨_, (wdI_rng _ _ _ _ _ _).1, (wdI_rng _ _ _ _ _ _).2, rfl, below_then (by (repeat' (first | (with_reducible exact B2) | (with_reducible apply bel_set) | (with_reducible apply bel_alloc) | (with_reducible apply below_drewN) | (simp; done) | (simp; omega) | omega | (simp [World.setCell]; done) | (simp [World.setCell]; omega)))) hb9 (Nat.le_refl _)⟩
  · have hq : (v : Int) % 16 = 4 := by omega
    clear hr
    have Q1 : (v : Int).tdiv 16 = ((v / 16 : Nat) : Int) := by rw [Int.tdiv_eq_ediv_of_nonneg (by omega)]; omega
    have T1 : ((v / 16 : Nat) : Int).tmod 12 = ((v / 16 % 12 : Nat) : Int) := by rw [Int.tmod_eq_emod_of_nonneg (by omega)]; omega
    have m1 : v / 16 % 12 < 12 := by omega
    have Q2 : (v : Int) / 16 = ((v / 16 : Nat) : Int) := by omega
    have T2 : ((v / 16 : Nat) : Int) % 12 = ((v / 16 % 12 : Nat) : Int) := by omega
    generalize v / 16 % 12 = m at T1 T2 m1
    have q1 : v / 16 ≤ 1048576 := by omega
    generalize v / 16 = q at Q1 Q2 T1 T2 q1
    have m2 : (m : Int) < 12 := by omega
    obtain ⟨k1, k2⟩ := pn1_r m m1
    have L2 := ints_at (w := w1.alloc (.cells #[.int .i64 (k0 : Int), .int .i64 (s0 : Int), .int .i64 (t0 : Int), .int .i64 (d0 : Int), .int .i64 (h0 : Int), .int .u32 (i0 : Int)] 27)) (cs := #[.int .i64 66, .int .i64 67, .int .i64 68, .int .i64 69, .int .i64 70, .int .i64 71, .int .i64 72, .int .i64 73, .int .i64 74, .int .i64 75, .int .i64 73, .int .i64 68]) (t := 3) (n := 12) (f := pn1) (by kernel_rfl) m m1
    have X2 := drawn_below X1.out (below_new (w := w1.alloc (.cells #[.int .i64 (k0 : Int), .int .i64 (s0 : Int), .int .i64 (t0 : Int), .int .i64 (d0 : Int), .int .i64 (h0 : Int), .int .u32 (i0 : Int)] 27)) (o := .cells #[.int .i64 66, .int .i64 67, .int .i64 68, .int .i64 69, .int .i64 70, .int .i64 71, .int .i64 72, .int .i64 73, .int .i64 74, .int .i64 75, .int .i64 73, .int .i64 68] 3)) (by simp; omega)
    have R2 := R1.alloc (.cells #[.int .i64 66, .int .i64 67, .int .i64 68, .int .i64 69, .int .i64 70, .int .i64 71, .int .i64 72, .int .i64 73, .int .i64 74, .int .i64 75, .int .i64 73, .int .i64 68] 3)
    have B2 := below_then B1 (below_new (w := w1.alloc (.cells #[.int .i64 (k0 : Int), .int .i64 (s0 : Int), .int .i64 (t0 : Int), .int .i64 (d0 : Int), .int .i64 (h0 : Int), .int .u32 (i0 : Int)] 27)) (o := .cells #[.int .i64 66, .int .i64 67, .int .i64 68, .int .i64 69, .int .i64 70, .int .i64 71, .int .i64 72, .int .i64 73, .int .i64 74, .int .i64 75, .int .i64 73, .int .i64 68] 3)) (Nat.le_refl _)
    rw [Z3] at L2
    go_wp2_with fail
    generalize (w1.alloc (.cells #[.int .i64 (k0 : Int), .int .i64 (s0 : Int), .int .i64 (t0 : Int), .int .i64 (d0 : Int), .int .i64 (h0 : Int), .int .u32 (i0 : Int)] 27)).alloc (.cells #[.int .i64 66, .int .i64 67, .int .i64 68, .int .i64 69, .int .i64 70, .int .i64 71, .int .i64 72, .int .i64 73, .int .i64 74, .int .i64 75, .int .i64 73, .int .i64 68] 3) = W2 at X2 R2 B2 L2 ⊢
    generalize w1.heap.size = b at R2 L2 Z1 ⊢
    have hz0 := R2.lt
    have hzl := block_lt_of_cell L2
    have X2d : Drawn W2.drew w.heap.size K S T E G I R ∧ W2.drew.cell? ⟨b + 1, m, none⟩ = some (.int .i64 (pn1 m : Int)) := ⟨X2, L2⟩
    have R2d : (W2.drewN 1).rowIs b 27 6 (insF k0 s0 t0 d0 h0 i0) := R2
    have B2d := below_drewN B2 1
    have hz0d : b < (W2.drewN 1).heap.size := hz0
    have hzld : b + 1 < (W2.drewN 1).heap.size := hzl
    clear X1 R1 B1 X2 R2 L2 B2 hz0 hzl Z2 Z3
    have Q3 : IntKind.i64.wrap (q : Int) = (q : Int) := by rw [IntKind.wrap_i64]; omega
    have Q4 : wrap64 (q : Int) = (q : Int) := by clear Q3; unfold wrap64; omega
    go_region_held3 (fun w' => (w'.cell? ⟨w.heap.size, 0, none⟩ = some (.int .i64 K) ∧ w'.cell? ⟨w.heap.size, 1, none⟩ = some (.int .i64 S) ∧ w'.cell? ⟨w.heap.size, 2, none⟩ = some (.int .i64 T) ∧ w'.cell? ⟨w.heap.size, 3, none⟩ = some (.int .i64 E) ∧ w'.cell? ⟨w.heap.size, 4, none⟩ = some (.int .i64 G) ∧ w'.cell? ⟨w.heap.size, 5, none⟩ = some (.int .u32 I) ∧ w'.cell? ⟨w.heap.size, 6, none⟩ = some (.int .u32 R)) ∧ w'.cell? ⟨b + 1, m, none⟩ = some (.int .i64 (pn1 m : Int)))
      (first | (with_reducible exact X2d) | (with_reducible exact X3) | (with_reducible exact ⟨drawn_off6 X3.1 (Nat.ne_of_gt Z1) _ _ _ _ _ _, X4⟩))
      (first
      | (go_at_call 22; (with_reducible refine (inst_any _ _ _ _ _ _ _ (pn1 m) _ hx k1 k2).mono ?_); rintro e w3 ⟨s, t, d, h, i, rfl, l1, l2, l3, l4, l5, hb3⟩; have X3 : Drawn w3 w.heap.size K S T E G I R ∧ w3.cell? ⟨b + 1, m, none⟩ = some (.int .i64 (pn1 m : Int)) := ⟨drawn_below X2d.1 hb3 (Nat.lt_trans Z1 hz0d), (hb3.cell (p := ⟨b + 1, m, none⟩) hzld).trans X2d.2⟩; have R3 := row_below R2d hb3 hz0d; obtain ⟨z3, y0, y1, y2, y3, y4, y5⟩ := row_one R3; have X4 := cell_off6 X3.2 (b := b) (Nat.ne_of_lt (Nat.lt_succ_self b)) (.int .i64 (pn1 m : Int)) (.int .i64 (s : Int)) (.int .i64 (t : Int)) (.int .i64 (d : Int)) (.int .i64 (h : Int)) (.int .u32 (i : Int))))
    all_goals
      clear Q3 Q4
      have a1 := D.ms (pn1 m) (by omega); have a2 := D.mt (pn1 m) (by omega); have a3 := D.md (pn1 m) (by omega); have a4 := D.mh (pn1 m) (by omega); have a5 := D.mi (pn1 m) (by omega)
      have X5 := drawn_off6 X3.1 (Nat.ne_of_gt Z1) (.int .i64 (pn1 m : Int)) (.int .i64 (s : Int)) (.int .i64 (t : Int)) (.int .i64 (d : Int)) (.int .i64 (h : Int)) (.int .u32 (i : Int))
      have R5 := row_set6 R3 (pn1 m : Int) s t d h i
      have B5 := bel6 (below_then B2d hb3 (Nat.le_refl _)) (Nat.le_of_lt Z1) (.int .i64 (pn1 m : Int)) (.int .i64 (s : Int)) (.int .i64 (t : Int)) (.int .i64 (d : Int)) (.int .i64 (h : Int)) (.int .u32 (i : Int))
      generalize ((((((w3.setCell ⟨b, 0, none⟩ (.int .i64 (pn1 m : Int))).setCell ⟨b, 1, none⟩ (.int .i64 (s : Int))).setCell ⟨b, 2, none⟩ (.int .i64 (t : Int))).setCell ⟨b, 3, none⟩ (.int .i64 (d : Int))).setCell ⟨b, 4, none⟩ (.int .i64 (h : Int))).setCell ⟨b, 5, none⟩ (.int .u32 (i : Int))) = W5 at X5 R5 B5 ⊢
      clear X4 X3 R3 z3 y0 y1 y2 y3 y4 y5 X2d R2d B2d hz0d hzld hb3 T1 Q1 T2 Q2
      obtain ⟨y0, y1, y2, y3, y4, y5, y6⟩ := X5
      obtain ⟨z5, c0, c1, c2, c3, c4, c5⟩ := row_one R5
      simp only [insF] at c0 c1 c2 c3 c4 c5
      have hz5 := R5.lt
      have hzw := Nat.lt_trans Z1 hz5
      have e3 : bits .and .i64 S 3 = S % 4 := and_p S 3 2 rfl (by omega)
      have e30 : 0 ≤ S % 4 := by omega
      have e31 : S % 4 < 4 := by omega
      obtain ⟨b20, b21⟩ := bits_u32 .and (i : Int) 2044
      go_wp2_with fail
      refine (rword_any _ _ _ _ _ _ _ (Lib.hid (inr_small (by omega) (by omega) (by omega) (by omega) (by omega) (by omega)))).mono ?_
      rintro e w9 ⟨rfl, hb9⟩
      go_wp2
      go_ret
      exact ⟨_, (wdI_rng _ _ _ _ _ _).1, (wdI_rng _ _ _ _ _ _).2, rfl, below_then (by (repeat' (first | (with_reducible exact B5) | (with_reducible apply bel_set) | (with_reducible apply bel_alloc) | (with_reducible apply below_drewN) | (simp; done) | (simp; omega) | omega | (simp [World.setCell]; done) | (simp [World.setCell]; omega)))) hb9 (Nat.le_refl _)⟩
  · have hq : (v : Int) % 16 = 5 := by omega
    clear hr
    have Q1 : (v : Int).tdiv 16 = ((v / 16 : Nat) : Int) := by rw [Int.tdiv_eq_ediv_of_nonneg (by omega)]; omega
    have T1 : ((v / 16 : Nat) : Int).tmod 12 = ((v / 16 % 12 : Nat) : Int) := by rw [Int.tmod_eq_emod_of_nonneg (by omega)]; omega
    have m1 : v / 16 % 12 < 12 := by omega
    have Q2 : (v : Int) / 16 = ((v / 16 : Nat) : Int) := by omega
    have T2 : ((v / 16 : Nat) : Int) % 12 = ((v / 16 % 12 : Nat) : Int) := by omega
    generalize v / 16 % 12 = m at T1 T2 m1
    have q1 : v / 16 ≤ 1048576 := by omega
    generalize v / 16 = q at Q1 Q2 T1 T2 q1
    have m2 : (m : Int) < 12 := by omega
    obtain ⟨k1, k2⟩ := pn1_r m m1
    have L2 := ints_at (w := w1.alloc (.cells #[.int .i64 (k0 : Int), .int .i64 (s0 : Int), .int .i64 (t0 : Int), .int .i64 (d0 : Int), .int .i64 (h0 : Int), .int .u32 (i0 : Int)] 27)) (cs := #[.int .i64 66, .int .i64 67, .int .i64 68, .int .i64 69, .int .i64 70, .int .i64 71, .int .i64 72, .int .i64 73, .int .i64 74, .int .i64 75, .int .i64 73, .int .i64 68]) (t := 3) (n := 12) (f := pn1) (by kernel_rfl) m m1
    have X2 := drawn_below X1.out (below_new (w := w1.alloc (.cells #[.int .i64 (k0 : Int), .int .i64 (s0 : Int), .int .i64 (t0 : Int), .int .i64 (d0 : Int), .int .i64 (h0 : Int), .int .u32 (i0 : Int)] 27)) (o := .cells #[.int .i64 66, .int .i64 67, .int .i64 68, .int .i64 69, .int .i64 70, .int .i64 71, .int .i64 72, .int .i64 73, .int .i64 74, .int .i64 75, .int .i64 73, .int .i64 68] 3)) (by simp; omega)
    have R2 := R1.alloc (.cells #[.int .i64 66, .int .i64 67, .int .i64 68, .int .i64 69, .int .i64 70, .int .i64 71, .int .i64 72, .int .i64 73, .int .i64 74, .int .i64 75, .int .i64 73, .int .i64 68] 3)
    have B2 := below_then B1 (below_new (w := w1.alloc (.cells #[.int .i64 (k0 : Int), .int .i64 (s0 : Int), .int .i64 (t0 : Int), .int .i64 (d0 : Int), .int .i64 (h0 : Int), .int .u32 (i0 : Int)] 27)) (o := .cells #[.int .i64 66, .int .i64 67, .int .i64 68, .int .i64 69, .int .i64 70, .int .i64 71, .int .i64 72, .int .i64 73, .int .i64 74, .int .i64 75, .int .i64 73, .int .i64 68] 3)) (Nat.le_refl _)
    rw [Z3] at L2
    go_wp2_with fail
    generalize (w1.alloc (.cells #[.int .i64 (k0 : Int), .int .i64 (s0 : Int), .int .i64 (t0 : Int), .int .i64 (d0 : Int), .int .i64 (h0 : Int), .int .u32 (i0 : Int)] 27)).alloc (.cells #[.int .i64 66, .int .i64 67, .int .i64 68, .int .i64 69, .int .i64 70, .int .i64 71, .int .i64 72, .int .i64 73, .int .i64 74, .int .i64 75, .int .i64 73, .int .i64 68] 3) = W2 at X2 R2 B2 L2 ⊢
    generalize w1.heap.size = b at R2 L2 Z1 ⊢
    have hz0 := R2.lt
    have hzl := block_lt_of_cell L2
    have X2d : Drawn W2.drew w.heap.size K S T E G I R ∧ W2.drew.cell? ⟨b + 1, m, none⟩ = some (.int .i64 (pn1 m : Int)) := ⟨X2, L2⟩
    have R2d : (W2.drewN 1).rowIs b 27 6 (insF k0 s0 t0 d0 h0 i0) := R2
    have B2d := below_drewN B2 1
    have hz0d : b < (W2.drewN 1).heap.size := hz0
    have hzld : b + 1 < (W2.drewN 1).heap.size := hzl
    clear X1 R1 B1 X2 R2 L2 B2 hz0 hzl Z2 Z3
    have Q3 : IntKind.i64.wrap (q : Int) = (q : Int) := by rw [IntKind.wrap_i64]; omega
    have Q4 : wrap64 (q : Int) = (q : Int) := by clear Q3; unfold wrap64; omega
    go_region_held3 (fun w' => (w'.cell? ⟨w.heap.size, 0, none⟩ = some (.int .i64 K) ∧ w'.cell? ⟨w.heap.size, 1, none⟩ = some (.int .i64 S) ∧ w'.cell? ⟨w.heap.size, 2, none⟩ = some (.int .i64 T) ∧ w'.cell? ⟨w.heap.size, 3, none⟩ = some (.int .i64 E) ∧ w'.cell? ⟨w.heap.size, 4, none⟩ = some (.int .i64 G) ∧ w'.cell? ⟨w.heap.size, 5, none⟩ = some (.int .u32 I) ∧ w'.cell? ⟨w.heap.size, 6, none⟩ = some (.int .u32 R)) ∧ w'.cell? ⟨b + 1, m, none⟩ = some (.int .i64 (pn1 m : Int)))
      (first | (with_reducible exact X2d) | (with_reducible exact X3) | (with_reducible exact ⟨drawn_off6 X3.1 (Nat.ne_of_gt Z1) _ _ _ _ _ _, X4⟩))
      (first
      | (go_at_call 22; (with_reducible refine (inst_any _ _ _ _ _ _ _ (pn1 m) _ hx k1 k2).mono ?_); rintro e w3 ⟨s, t, d, h, i, rfl, l1, l2, l3, l4, l5, hb3⟩; have X3 : Drawn w3 w.heap.size K S T E G I R ∧ w3.cell? ⟨b + 1, m, none⟩ = some (.int .i64 (pn1 m : Int)) := ⟨drawn_below X2d.1 hb3 (Nat.lt_trans Z1 hz0d), (hb3.cell (p := ⟨b + 1, m, none⟩) hzld).trans X2d.2⟩; have R3 := row_below R2d hb3 hz0d; obtain ⟨z3, y0, y1, y2, y3, y4, y5⟩ := row_one R3; have X4 := cell_off6 X3.2 (b := b) (Nat.ne_of_lt (Nat.lt_succ_self b)) (.int .i64 (pn1 m : Int)) (.int .i64 (s : Int)) (.int .i64 (t : Int)) (.int .i64 (d : Int)) (.int .i64 (h : Int)) (.int .u32 (i : Int))))
    all_goals
      clear Q3 Q4
      have a1 := D.ms (pn1 m) (by omega); have a2 := D.mt (pn1 m) (by omega); have a3 := D.md (pn1 m) (by omega); have a4 := D.mh (pn1 m) (by omega); have a5 := D.mi (pn1 m) (by omega)
      have X5 := drawn_off6 X3.1 (Nat.ne_of_gt Z1) (.int .i64 (pn1 m : Int)) (.int .i64 (s : Int)) (.int .i64 (t : Int)) (.int .i64 (d : Int)) (.int .i64 (h : Int)) (.int .u32 (i : Int))
      have R5 := row_set6 R3 (pn1 m : Int) s t d h i
      have B5 := bel6 (below_then B2d hb3 (Nat.le_refl _)) (Nat.le_of_lt Z1) (.int .i64 (pn1 m : Int)) (.int .i64 (s : Int)) (.int .i64 (t : Int)) (.int .i64 (d : Int)) (.int .i64 (h : Int)) (.int .u32 (i : Int))
      generalize ((((((w3.setCell ⟨b, 0, none⟩ (.int .i64 (pn1 m : Int))).setCell ⟨b, 1, none⟩ (.int .i64 (s : Int))).setCell ⟨b, 2, none⟩ (.int .i64 (t : Int))).setCell ⟨b, 3, none⟩ (.int .i64 (d : Int))).setCell ⟨b, 4, none⟩ (.int .i64 (h : Int))).setCell ⟨b, 5, none⟩ (.int .u32 (i : Int))) = W5 at X5 R5 B5 ⊢
      clear X4 X3 R3 z3 y0 y1 y2 y3 y4 y5 X2d R2d B2d hz0d hzld hb3 T1 Q1 T2 Q2
      obtain ⟨y0, y1, y2, y3, y4, y5, y6⟩ := X5
      obtain ⟨z5, c0, c1, c2, c3, c4, c5⟩ := row_one R5
      simp only [insF] at c0 c1 c2 c3 c4 c5
      have hz5 := R5.lt
      have hzw := Nat.lt_trans Z1 hz5
      have e3 : bits .and .i64 S 3 = S % 4 := and_p S 3 2 rfl (by omega)
      have e30 : 0 ≤ S % 4 := by omega
      have e31 : S % 4 < 4 := by omega
      obtain ⟨b20, b21⟩ := bits_u32 .and (i : Int) 2044
      go_wp2_with fail
      refine (rword_any _ _ _ _ _ _ _ (Lib.hid (inr_small (by omega) (by omega) (by omega) (by omega) (by omega) (by omega)))).mono ?_
      rintro e w9 ⟨rfl, hb9⟩
      go_wp2
      go_ret
      exact ⟨_, (wdI_rng _ _ _ _ _ _).1, (wdI_rng _ _ _ _ _ _).2, rfl, below_then (by (repeat' (first | (with_reducible exact B5) | (with_reducible apply bel_set) | (with_reducible apply bel_alloc) | (with_reducible apply below_drewN) | (simp; done) | (simp; omega) | omega | (simp [World.setCell]; done) | (simp [World.setCell]; omega)))) hb9 (Nat.le_refl _)⟩
  · have hq : (v : Int) % 16 = 6 := by omega
    clear hr
    have Q1 : (v : Int).tdiv 16 = ((v / 16 : Nat) : Int) := by rw [Int.tdiv_eq_ediv_of_nonneg (by omega)]; omega
    have T1 : ((v / 16 : Nat) : Int).tmod 12 = ((v / 16 % 12 : Nat) : Int) := by rw [Int.tmod_eq_emod_of_nonneg (by omega)]; omega
    have m1 : v / 16 % 12 < 12 := by omega
    have Q2 : (v : Int) / 16 = ((v / 16 : Nat) : Int) := by omega
    have T2 : ((v / 16 : Nat) : Int) % 12 = ((v / 16 % 12 : Nat) : Int) := by omega
    generalize v / 16 % 12 = m at T1 T2 m1
    have q1 : v / 16 ≤ 1048576 := by omega
    generalize v / 16 = q at Q1 Q2 T1 T2 q1
    have m2 : (m : Int) < 12 := by omega
    obtain ⟨k1, k2⟩ := pn1_r m m1
    have L2 := ints_at (w := w1.alloc (.cells #[.int .i64 (k0 : Int), .int .i64 (s0 : Int), .int .i64 (t0 : Int), .int .i64 (d0 : Int), .int .i64 (h0 : Int), .int .u32 (i0 : Int)] 27)) (cs := #[.int .i64 66, .int .i64 67, .int .i64 68, .int .i64 69, .int .i64 70, .int .i64 71, .int .i64 72, .int .i64 73, .int .i64 74, .int .i64 75, .int .i64 73, .int .i64 68]) (t := 3) (n := 12) (f := pn1) (by kernel_rfl) m m1
    have X2 := drawn_below X1.out (below_new (w := w1.alloc (.cells #[.int .i64 (k0 : Int), .int .i64 (s0 : Int), .int .i64 (t0 : Int), .int .i64 (d0 : Int), .int .i64 (h0 : Int), .int .u32 (i0 : Int)] 27)) (o := .cells #[.int .i64 66, .int .i64 67, .int .i64 68, .int .i64 69, .int .i64 70, .int .i64 71, .int .i64 72, .int .i64 73, .int .i64 74, .int .i64 75, .int .i64 73, .int .i64 68] 3)) (by simp; omega)
    have R2 := R1.alloc (.cells #[.int .i64 66, .int .i64 67, .int .i64 68, .int .i64 69, .int .i64 70, .int .i64 71, .int .i64 72, .int .i64 73, .int .i64 74, .int .i64 75, .int .i64 73, .int .i64 68] 3)
    have B2 := below_then B1 (below_new (w := w1.alloc (.cells #[.int .i64 (k0 : Int), .int .i64 (s0 : Int), .int .i64 (t0 : Int), .int .i64 (d0 : Int), .int .i64 (h0 : Int), .int .u32 (i0 : Int)] 27)) (o := .cells #[.int .i64 66, .int .i64 67, .int .i64 68, .int .i64 69, .int .i64 70, .int .i64 71, .int .i64 72, .int .i64 73, .int .i64 74, .int .i64 75, .int .i64 73, .int .i64 68] 3)) (Nat.le_refl _)
    rw [Z3] at L2
    go_wp2_with fail
    generalize (w1.alloc (.cells #[.int .i64 (k0 : Int), .int .i64 (s0 : Int), .int .i64 (t0 : Int), .int .i64 (d0 : Int), .int .i64 (h0 : Int), .int .u32 (i0 : Int)] 27)).alloc (.cells #[.int .i64 66, .int .i64 67, .int .i64 68, .int .i64 69, .int .i64 70, .int .i64 71, .int .i64 72, .int .i64 73, .int .i64 74, .int .i64 75, .int .i64 73, .int .i64 68] 3) = W2 at X2 R2 B2 L2 ⊢
    generalize w1.heap.size = b at R2 L2 Z1 ⊢
    have hz0 := R2.lt
    have hzl := block_lt_of_cell L2
    have X2d : Drawn W2.drew w.heap.size K S T E G I R ∧ W2.drew.cell? ⟨b + 1, m, none⟩ = some (.int .i64 (pn1 m : Int)) := ⟨X2, L2⟩
    have R2d : (W2.drewN 1).rowIs b 27 6 (insF k0 s0 t0 d0 h0 i0) := R2
    have B2d := below_drewN B2 1
    have hz0d : b < (W2.drewN 1).heap.size := hz0
    have hzld : b + 1 < (W2.drewN 1).heap.size := hzl
    clear X1 R1 B1 X2 R2 L2 B2 hz0 hzl Z2 Z3
    have Q3 : IntKind.i64.wrap (q : Int) = (q : Int) := by rw [IntKind.wrap_i64]; omega
    have Q4 : wrap64 (q : Int) = (q : Int) := by clear Q3; unfold wrap64; omega
    go_region_held3 (fun w' => (w'.cell? ⟨w.heap.size, 0, none⟩ = some (.int .i64 K) ∧ w'.cell? ⟨w.heap.size, 1, none⟩ = some (.int .i64 S) ∧ w'.cell? ⟨w.heap.size, 2, none⟩ = some (.int .i64 T) ∧ w'.cell? ⟨w.heap.size, 3, none⟩ = some (.int .i64 E) ∧ w'.cell? ⟨w.heap.size, 4, none⟩ = some (.int .i64 G) ∧ w'.cell? ⟨w.heap.size, 5, none⟩ = some (.int .u32 I) ∧ w'.cell? ⟨w.heap.size, 6, none⟩ = some (.int .u32 R)) ∧ w'.cell? ⟨b + 1, m, none⟩ = some (.int .i64 (pn1 m : Int)))
      (first | (with_reducible exact X2d) | (with_reducible exact X3) | (with_reducible exact ⟨drawn_off6 X3.1 (Nat.ne_of_gt Z1) _ _ _ _ _ _, X4⟩))
      (first
      | (go_at_call 22; (with_reducible refine (inst_any _ _ _ _ _ _ _ (pn1 m) _ hx k1 k2).mono ?_); rintro e w3 ⟨s, t, d, h, i, rfl, l1, l2, l3, l4, l5, hb3⟩; have X3 : Drawn w3 w.heap.size K S T E G I R ∧ w3.cell? ⟨b + 1, m, none⟩ = some (.int .i64 (pn1 m : Int)) := ⟨drawn_below X2d.1 hb3 (Nat.lt_trans Z1 hz0d), (hb3.cell (p := ⟨b + 1, m, none⟩) hzld).trans X2d.2⟩; have R3 := row_below R2d hb3 hz0d; obtain ⟨z3, y0, y1, y2, y3, y4, y5⟩ := row_one R3; have X4 := cell_off6 X3.2 (b := b) (Nat.ne_of_lt (Nat.lt_succ_self b)) (.int .i64 (pn1 m : Int)) (.int .i64 (s : Int)) (.int .i64 (t : Int)) (.int .i64 (d : Int)) (.int .i64 (h : Int)) (.int .u32 (i : Int))))
    all_goals
      clear Q3 Q4
      have a1 := D.ms (pn1 m) (by omega); have a2 := D.mt (pn1 m) (by omega); have a3 := D.md (pn1 m) (by omega); have a4 := D.mh (pn1 m) (by omega); have a5 := D.mi (pn1 m) (by omega)
      have X5 := drawn_off6 X3.1 (Nat.ne_of_gt Z1) (.int .i64 (pn1 m : Int)) (.int .i64 (s : Int)) (.int .i64 (t : Int)) (.int .i64 (d : Int)) (.int .i64 (h : Int)) (.int .u32 (i : Int))
      have R5 := row_set6 R3 (pn1 m : Int) s t d h i
      have B5 := bel6 (below_then B2d hb3 (Nat.le_refl _)) (Nat.le_of_lt Z1) (.int .i64 (pn1 m : Int)) (.int .i64 (s : Int)) (.int .i64 (t : Int)) (.int .i64 (d : Int)) (.int .i64 (h : Int)) (.int .u32 (i : Int))
      generalize ((((((w3.setCell ⟨b, 0, none⟩ (.int .i64 (pn1 m : Int))).setCell ⟨b, 1, none⟩ (.int .i64 (s : Int))).setCell ⟨b, 2, none⟩ (.int .i64 (t : Int))).setCell ⟨b, 3, none⟩ (.int .i64 (d : Int))).setCell ⟨b, 4, none⟩ (.int .i64 (h : Int))).setCell ⟨b, 5, none⟩ (.int .u32 (i : Int))) = W5 at X5 R5 B5 ⊢
      clear X4 X3 R3 z3 y0 y1 y2 y3 y4 y5 X2d R2d B2d hz0d hzld hb3 T1 Q1 T2 Q2
      obtain ⟨y0, y1, y2, y3, y4, y5, y6⟩ := X5
      obtain ⟨z5, c0, c1, c2, c3, c4, c5⟩ := row_one R5
      simp only [insF] at c0 c1 c2 c3 c4 c5
      have hz5 := R5.lt
      have hzw := Nat.lt_trans Z1 hz5
      have e3 : bits .and .i64 S 3 = S % 4 := and_p S 3 2 rfl (by omega)
      have e30 : 0 ≤ S % 4 := by omega
      have e31 : S % 4 < 4 := by omega
      obtain ⟨b20, b21⟩ := bits_u32 .and (i : Int) 2044
      go_wp2_with fail
      refine (rword_any _ _ _ _ _ _ _ (Lib.hid (inr_small (by omega) (by omega) (by omega) (by omega) (by omega) (by omega)))).mono ?_
      rintro e w9 ⟨rfl, hb9⟩
      go_wp2
      go_ret
      exact ⟨_, (wdI_rng _ _ _ _ _ _).1, (wdI_rng _ _ _ _ _ _).2, rfl, below_then (by (repeat' (first | (with_reducible exact B5) | (with_reducible apply bel_set) | (with_reducible apply bel_alloc) | (with_reducible apply below_drewN) | (simp; done) | (simp; omega) | omega | (simp [World.setCell]; done) | (simp [World.setCell]; omega)))) hb9 (Nat.le_refl _)⟩
  · have hq : (v : Int) % 16 = 7 := by omega
    clear hr
    have Q1 : (v : Int).tdiv 16 = ((v / 16 : Nat) : Int) := by rw [Int.tdiv_eq_ediv_of_nonneg (by omega)]; omega
    have T1 : ((v / 16 : Nat) : Int).tmod 8 = ((v / 16 % 8 : Nat) : Int) := by rw [Int.tmod_eq_emod_of_nonneg (by omega)]; omega
    have m1 : v / 16 % 8 < 8 := by omega
    have Q2 : (v : Int) / 16 = ((v / 16 : Nat) : Int) := by omega
    have T2 : ((v / 16 : Nat) : Int) % 8 = ((v / 16 % 8 : Nat) : Int) := by omega
    generalize v / 16 % 8 = m at T1 T2 m1
    have q1 : v / 16 ≤ 1048576 := by omega
    generalize v / 16 = q at Q1 Q2 T1 T2 q1
    have m2 : (m : Int) < 8 := by omega
    obtain ⟨k1, k2⟩ := pn2_r m m1
    have L2 := ints_at (w := w1.alloc (.cells #[.int .i64 (k0 : Int), .int .i64 (s0 : Int), .int .i64 (t0 : Int), .int .i64 (d0 : Int), .int .i64 (h0 : Int), .int .u32 (i0 : Int)] 27)) (cs := #[.int .i64 42, .int .i64 43, .int .i64 44, .int .i64 45, .int .i64 36, .int .i64 37, .int .i64 39, .int .i64 42]) (t := 3) (n := 8) (f := pn2) (by kernel_rfl) m m1
    have X2 := drawn_below X1.out (below_new (w := w1.alloc (.cells #[.int .i64 (k0 : Int), .int .i64 (s0 : Int), .int .i64 (t0 : Int), .int .i64 (d0 : Int), .int .i64 (h0 : Int), .int .u32 (i0 : Int)] 27)) (o := .cells #[.int .i64 42, .int .i64 43, .int .i64 44, .int .i64 45, .int .i64 36, .int .i64 37, .int .i64 39, .int .i64 42] 3)) (by simp; omega)
    have R2 := R1.alloc (.cells #[.int .i64 42, .int .i64 43, .int .i64 44, .int .i64 45, .int .i64 36, .int .i64 37, .int .i64 39, .int .i64 42] 3)
    have B2 := below_then B1 (below_new (w := w1.alloc (.cells #[.int .i64 (k0 : Int), .int .i64 (s0 : Int), .int .i64 (t0 : Int), .int .i64 (d0 : Int), .int .i64 (h0 : Int), .int .u32 (i0 : Int)] 27)) (o := .cells #[.int .i64 42, .int .i64 43, .int .i64 44, .int .i64 45, .int .i64 36, .int .i64 37, .int .i64 39, .int .i64 42] 3)) (Nat.le_refl _)
    rw [Z3] at L2
    go_wp2_with fail
    generalize (w1.alloc (.cells #[.int .i64 (k0 : Int), .int .i64 (s0 : Int), .int .i64 (t0 : Int), .int .i64 (d0 : Int), .int .i64 (h0 : Int), .int .u32 (i0 : Int)] 27)).alloc (.cells #[.int .i64 42, .int .i64 43, .int .i64 44, .int .i64 45, .int .i64 36, .int .i64 37, .int .i64 39, .int .i64 42] 3) = W2 at X2 R2 B2 L2 ⊢
    generalize w1.heap.size = b at R2 L2 Z1 ⊢
    have hz0 := R2.lt
    have hzl := block_lt_of_cell L2
    have X2d : Drawn W2.drew w.heap.size K S T E G I R ∧ W2.drew.cell? ⟨b + 1, m, none⟩ = some (.int .i64 (pn2 m : Int)) := ⟨X2, L2⟩
    have R2d : (W2.drewN 1).rowIs b 27 6 (insF k0 s0 t0 d0 h0 i0) := R2
    have B2d := below_drewN B2 1
    have hz0d : b < (W2.drewN 1).heap.size := hz0
    have hzld : b + 1 < (W2.drewN 1).heap.size := hzl
    clear X1 R1 B1 X2 R2 L2 B2 hz0 hzl Z2 Z3
    have Q3 : IntKind.i64.wrap (q : Int) = (q : Int) := by rw [IntKind.wrap_i64]; omega
    have Q4 : wrap64 (q : Int) = (q : Int) := by clear Q3; unfold wrap64; omega
    go_region_held3 (fun w' => (w'.cell? ⟨w.heap.size, 0, none⟩ = some (.int .i64 K) ∧ w'.cell? ⟨w.heap.size, 1, none⟩ = some (.int .i64 S) ∧ w'.cell? ⟨w.heap.size, 2, none⟩ = some (.int .i64 T) ∧ w'.cell? ⟨w.heap.size, 3, none⟩ = some (.int .i64 E) ∧ w'.cell? ⟨w.heap.size, 4, none⟩ = some (.int .i64 G) ∧ w'.cell? ⟨w.heap.size, 5, none⟩ = some (.int .u32 I) ∧ w'.cell? ⟨w.heap.size, 6, none⟩ = some (.int .u32 R)) ∧ w'.cell? ⟨b + 1, m, none⟩ = some (.int .i64 (pn2 m : Int)))
      (first | (with_reducible exact X2d) | (with_reducible exact X3) | (with_reducible exact ⟨drawn_off6 X3.1 (Nat.ne_of_gt Z1) _ _ _ _ _ _, X4⟩))
      (first
      | (go_at_call 22; (with_reducible refine (inst_any _ _ _ _ _ _ _ (pn2 m) _ hx k1 k2).mono ?_); rintro e w3 ⟨s, t, d, h, i, rfl, l1, l2, l3, l4, l5, hb3⟩; have X3 : Drawn w3 w.heap.size K S T E G I R ∧ w3.cell? ⟨b + 1, m, none⟩ = some (.int .i64 (pn2 m : Int)) := ⟨drawn_below X2d.1 hb3 (Nat.lt_trans Z1 hz0d), (hb3.cell (p := ⟨b + 1, m, none⟩) hzld).trans X2d.2⟩; have R3 := row_below R2d hb3 hz0d; obtain ⟨z3, y0, y1, y2, y3, y4, y5⟩ := row_one R3; have X4 := cell_off6 X3.2 (b := b) (Nat.ne_of_lt (Nat.lt_succ_self b)) (.int .i64 (pn2 m : Int)) (.int .i64 (s : Int)) (.int .i64 (t : Int)) (.int .i64 (d : Int)) (.int .i64 (h : Int)) (.int .u32 (i : Int))))
    all_goals
      clear Q3 Q4
      have a1 := D.ms (pn2 m) (by omega); have a2 := D.mt (pn2 m) (by omega); have a3 := D.md (pn2 m) (by omega); have a4 := D.mh (pn2 m) (by omega); have a5 := D.mi (pn2 m) (by omega)
      have X5 := drawn_off6 X3.1 (Nat.ne_of_gt Z1) (.int .i64 (pn2 m : Int)) (.int .i64 (s : Int)) (.int .i64 (t : Int)) (.int .i64 (d : Int)) (.int .i64 (h : Int)) (.int .u32 (i : Int))
      have R5 := row_set6 R3 (pn2 m : Int) s t d h i
      have B5 := bel6 (below_then B2d hb3 (Nat.le_refl _)) (Nat.le_of_lt Z1) (.int .i64 (pn2 m : Int)) (.int .i64 (s : Int)) (.int .i64 (t : Int)) (.int .i64 (d : Int)) (.int .i64 (h : Int)) (.int .u32 (i : Int))
      generalize ((((((w3.setCell ⟨b, 0, none⟩ (.int .i64 (pn2 m : Int))).setCell ⟨b, 1, none⟩ (.int .i64 (s : Int))).setCell ⟨b, 2, none⟩ (.int .i64 (t : Int))).setCell ⟨b, 3, none⟩ (.int .i64 (d : Int))).setCell ⟨b, 4, none⟩ (.int .i64 (h : Int))).setCell ⟨b, 5, none⟩ (.int .u32 (i : Int))) = W5 at X5 R5 B5 ⊢
      clear X4 X3 R3 z3 y0 y1 y2 y3 y4 y5 X2d R2d B2d hz0d hzld hb3 T1 Q1 T2 Q2
      obtain ⟨y0, y1, y2, y3, y4, y5, y6⟩ := X5
      obtain ⟨z5, c0, c1, c2, c3, c4, c5⟩ := row_one R5
      simp only [insF] at c0 c1 c2 c3 c4 c5
      have hz5 := R5.lt
      have hzw := Nat.lt_trans Z1 hz5
      go_wp2_with fail
      refine (rword_any _ _ _ _ _ _ _ (Lib.hid (inr_small (by omega) (by omega) (by omega) (by omega) (by omega) (bits_u32 _ _ _)))).mono ?_
      rintro e w9 ⟨rfl, hb9⟩
      go_wp2
      go_ret
      exact ⟨_, (wdI_rng _ _ _ _ _ _).1, (wdI_rng _ _ _ _ _ _).2, rfl, below_then (by (repeat' (first | (with_reducible exact B5) | (with_reducible apply bel_set) | (with_reducible apply bel_alloc) | (with_reducible apply below_drewN) | (simp; done) | (simp; omega) | omega | (simp [World.setCell]; done) | (simp [World.setCell]; omega)))) hb9 (Nat.le_refl _)⟩
  · have hq : (v : Int) % 16 = 8 := by omega
    clear hr
    have Q1 : (v : Int).tdiv 16 = ((v / 16 : Nat) : Int) := by rw [Int.tdiv_eq_ediv_of_nonneg (by omega)]; omega
    have T1 : ((v / 16 : Nat) : Int).tmod 8 = ((v / 16 % 8 : Nat) : Int) := by rw [Int.tmod_eq_emod_of_nonneg (by omega)]; omega
    have m1 : v / 16 % 8 < 8 := by omega
    have Q2 : (v : Int) / 16 = ((v / 16 : Nat) : Int) := by omega
    have T2 : ((v / 16 : Nat) : Int) % 8 = ((v / 16 % 8 : Nat) : Int) := by omega
    generalize v / 16 % 8 = m at T1 T2 m1
    have q1 : v / 16 ≤ 1048576 := by omega
    generalize v / 16 = q at Q1 Q2 T1 T2 q1
    have m2 : (m : Int) < 8 := by omega
    obtain ⟨k1, k2⟩ := pn2_r m m1
    have L2 := ints_at (w := w1.alloc (.cells #[.int .i64 (k0 : Int), .int .i64 (s0 : Int), .int .i64 (t0 : Int), .int .i64 (d0 : Int), .int .i64 (h0 : Int), .int .u32 (i0 : Int)] 27)) (cs := #[.int .i64 42, .int .i64 43, .int .i64 44, .int .i64 45, .int .i64 36, .int .i64 37, .int .i64 39, .int .i64 42]) (t := 3) (n := 8) (f := pn2) (by kernel_rfl) m m1
    have X2 := drawn_below X1.out (below_new (w := w1.alloc (.cells #[.int .i64 (k0 : Int), .int .i64 (s0 : Int), .int .i64 (t0 : Int), .int .i64 (d0 : Int), .int .i64 (h0 : Int), .int .u32 (i0 : Int)] 27)) (o := .cells #[.int .i64 42, .int .i64 43, .int .i64 44, .int .i64 45, .int .i64 36, .int .i64 37, .int .i64 39, .int .i64 42] 3)) (by simp; omega)
    have R2 := R1.alloc (.cells #[.int .i64 42, .int .i64 43, .int .i64 44, .int .i64 45, .int .i64 36, .int .i64 37, .int .i64 39, .int .i64 42] 3)
    have B2 := below_then B1 (below_new (w := w1.alloc (.cells #[.int .i64 (k0 : Int), .int .i64 (s0 : Int), .int .i64 (t0 : Int), .int .i64 (d0 : Int), .int .i64 (h0 : Int), .int .u32 (i0 : Int)] 27)) (o := .cells #[.int .i64 42, .int .i64 43, .int .i64 44, .int .i64 45, .int .i64 36, .int .i64 37, .int .i64 39, .int .i64 42] 3)) (Nat.le_refl _)
    rw [Z3] at L2
    go_wp2_with fail
    generalize (w1.alloc (.cells #[.int .i64 (k0 : Int), .int .i64 (s0 : Int), .int .i64 (t0 : Int), .int .i64 (d0 : Int), .int .i64 (h0 : Int), .int .u32 (i0 : Int)] 27)).alloc (.cells #[.int .i64 42, .int .i64 43, .int .i64 44, .int .i64 45, .int .i64 36, .int .i64 37, .int .i64 39, .int .i64 42] 3) = W2 at X2 R2 B2 L2 ⊢
    generalize w1.heap.size = b at R2 L2 Z1 ⊢
    have hz0 := R2.lt
    have hzl := block_lt_of_cell L2
    have X2d : Drawn W2.drew w.heap.size K S T E G I R ∧ W2.drew.cell? ⟨b + 1, m, none⟩ = some (.int .i64 (pn2 m : Int)) := ⟨X2, L2⟩
    have R2d : (W2.drewN 1).rowIs b 27 6 (insF k0 s0 t0 d0 h0 i0) := R2
    have B2d := below_drewN B2 1
    have hz0d : b < (W2.drewN 1).heap.size := hz0
    have hzld : b + 1 < (W2.drewN 1).heap.size := hzl
    clear X1 R1 B1 X2 R2 L2 B2 hz0 hzl Z2 Z3
    have Q3 : IntKind.i64.wrap (q : Int) = (q : Int) := by rw [IntKind.wrap_i64]; omega
    have Q4 : wrap64 (q : Int) = (q : Int) := by clear Q3; unfold wrap64; omega
    go_region_held3 (fun w' => (w'.cell? ⟨w.heap.size, 0, none⟩ = some (.int .i64 K) ∧ w'.cell? ⟨w.heap.size, 1, none⟩ = some (.int .i64 S) ∧ w'.cell? ⟨w.heap.size, 2, none⟩ = some (.int .i64 T) ∧ w'.cell? ⟨w.heap.size, 3, none⟩ = some (.int .i64 E) ∧ w'.cell? ⟨w.heap.size, 4, none⟩ = some (.int .i64 G) ∧ w'.cell? ⟨w.heap.size, 5, none⟩ = some (.int .u32 I) ∧ w'.cell? ⟨w.heap.size, 6, none⟩ = some (.int .u32 R)) ∧ w'.cell? ⟨b + 1, m, none⟩ = some (.int .i64 (pn2 m : Int)))
      (first | (with_reducible exact X2d) | (with_reducible exact X3) | (with_reducible exact ⟨drawn_off6 X3.1 (Nat.ne_of_gt Z1) _ _ _ _ _ _, X4⟩))
      (first
      | (go_at_call 22; (with_reducible refine (inst_any _ _ _ _ _ _ _ (pn2 m) _ hx k1 k2).mono ?_); rintro e w3 ⟨s, t, d, h, i, rfl, l1, l2, l3, l4, l5, hb3⟩; have X3 : Drawn w3 w.heap.size K S T E G I R ∧ w3.cell? ⟨b + 1, m, none⟩ = some (.int .i64 (pn2 m : Int)) := ⟨drawn_below X2d.1 hb3 (Nat.lt_trans Z1 hz0d), (hb3.cell (p := ⟨b + 1, m, none⟩) hzld).trans X2d.2⟩; have R3 := row_below R2d hb3 hz0d; obtain ⟨z3, y0, y1, y2, y3, y4, y5⟩ := row_one R3; have X4 := cell_off6 X3.2 (b := b) (Nat.ne_of_lt (Nat.lt_succ_self b)) (.int .i64 (pn2 m : Int)) (.int .i64 (s : Int)) (.int .i64 (t : Int)) (.int .i64 (d : Int)) (.int .i64 (h : Int)) (.int .u32 (i : Int))))
    all_goals
      clear Q3 Q4
      have a1 := D.ms (pn2 m) (by omega); have a2 := D.mt (pn2 m) (by omega); have a3 := D.md (pn2 m) (by omega); have a4 := D.mh (pn2 m) (by omega); have a5 := D.mi (pn2 m) (by omega)
      have X5 := drawn_off6 X3.1 (Nat.ne_of_gt Z1) (.int .i64 (pn2 m : Int)) (.int .i64 (s : Int)) (.int .i64 (t : Int)) (.int .i64 (d : Int)) (.int .i64 (h : Int)) (.int .u32 (i : Int))
      have R5 := row_set6 R3 (pn2 m : Int) s t d h i
      have B5 := bel6 (below_then B2d hb3 (Nat.le_refl _)) (Nat.le_of_lt Z1) (.int .i64 (pn2 m : Int)) (.int .i64 (s : Int)) (.int .i64 (t : Int)) (.int .i64 (d : Int)) (.int .i64 (h : Int)) (.int .u32 (i : Int))
      generalize ((((((w3.setCell ⟨b, 0, none⟩ (.int .i64 (pn2 m : Int))).setCell ⟨b, 1, none⟩ (.int .i64 (s : Int))).setCell ⟨b, 2, none⟩ (.int .i64 (t : Int))).setCell ⟨b, 3, none⟩ (.int .i64 (d : Int))).setCell ⟨b, 4, none⟩ (.int .i64 (h : Int))).setCell ⟨b, 5, none⟩ (.int .u32 (i : Int))) = W5 at X5 R5 B5 ⊢
      clear X4 X3 R3 z3 y0 y1 y2 y3 y4 y5 X2d R2d B2d hz0d hzld hb3 T1 Q1 T2 Q2
      obtain ⟨y0, y1, y2, y3, y4, y5, y6⟩ := X5
      obtain ⟨z5, c0, c1, c2, c3, c4, c5⟩ := row_one R5
      simp only [insF] at c0 c1 c2 c3 c4 c5
      have hz5 := R5.lt
      have hzw := Nat.lt_trans Z1 hz5
      go_wp2_with fail
      refine (rword_any _ _ _ _ _ _ _ (Lib.hid (inr_small (by omega) (by omega) (by omega) (by omega) (by omega) (bits_u32 _ _ _)))).mono ?_
      rintro e w9 ⟨rfl, hb9⟩
      go_wp2
      go_ret
      exact ⟨_, (wdI_rng _ _ _ _ _ _).1, (wdI_rng _ _ _ _ _ _).2, rfl, below_then (by (repeat' (first | (with_reducible exact B5) | (with_reducible apply bel_set) | (with_reducible apply bel_alloc) | (with_reducible apply below_drewN) | (simp; done) | (simp; omega) | omega | (simp [World.setCell]; done) | (simp [World.setCell]; omega)))) hb9 (Nat.le_refl _)⟩
  · have hq : (v : Int) % 16 = 9 := by omega
    clear hr
    have Q1 : (v : Int).tdiv 16 = ((v / 16 : Nat) : Int) := by rw [Int.tdiv_eq_ediv_of_nonneg (by omega)]; omega
    have T1 : ((v / 16 : Nat) : Int).tmod 10 = ((v / 16 % 10 : Nat) : Int) := by rw [Int.tmod_eq_emod_of_nonneg (by omega)]; omega
    have m1 : v / 16 % 10 < 10 := by omega
    have Q2 : (v : Int) / 16 = ((v / 16 : Nat) : Int) := by omega
    have T2 : ((v / 16 : Nat) : Int) % 10 = ((v / 16 % 10 : Nat) : Int) := by omega
    generalize v / 16 % 10 = m at T1 T2 m1
    have q1 : v / 16 ≤ 1048576 := by omega
    generalize v / 16 = q at Q1 Q2 T1 T2 q1
    have m2 : (m : Int) < 10 := by omega
    obtain ⟨k1, k2⟩ := pn3_r m m1
    have L2 := ints_at (w := w1.alloc (.cells #[.int .i64 (k0 : Int), .int .i64 (s0 : Int), .int .i64 (t0 : Int), .int .i64 (d0 : Int), .int .i64 (h0 : Int), .int .u32 (i0 : Int)] 27)) (cs := #[.int .i64 55, .int .i64 54, .int .i64 55, .int .i64 57, .int .i64 59, .int .i64 56, .int .i64 58, .int .i64 60, .int .i64 11, .int .i64 61]) (t := 3) (n := 10) (f := pn3) (by kernel_rfl) m m1
    have X2 := drawn_below X1.out (below_new (w := w1.alloc (.cells #[.int .i64 (k0 : Int), .int .i64 (s0 : Int), .int .i64 (t0 : Int), .int .i64 (d0 : Int), .int .i64 (h0 : Int), .int .u32 (i0 : Int)] 27)) (o := .cells #[.int .i64 55, .int .i64 54, .int .i64 55, .int .i64 57, .int .i64 59, .int .i64 56, .int .i64 58, .int .i64 60, .int .i64 11, .int .i64 61] 3)) (by simp; omega)
    have R2 := R1.alloc (.cells #[.int .i64 55, .int .i64 54, .int .i64 55, .int .i64 57, .int .i64 59, .int .i64 56, .int .i64 58, .int .i64 60, .int .i64 11, .int .i64 61] 3)
    have B2 := below_then B1 (below_new (w := w1.alloc (.cells #[.int .i64 (k0 : Int), .int .i64 (s0 : Int), .int .i64 (t0 : Int), .int .i64 (d0 : Int), .int .i64 (h0 : Int), .int .u32 (i0 : Int)] 27)) (o := .cells #[.int .i64 55, .int .i64 54, .int .i64 55, .int .i64 57, .int .i64 59, .int .i64 56, .int .i64 58, .int .i64 60, .int .i64 11, .int .i64 61] 3)) (Nat.le_refl _)
    rw [Z3] at L2
    go_wp2_with fail
    generalize (w1.alloc (.cells #[.int .i64 (k0 : Int), .int .i64 (s0 : Int), .int .i64 (t0 : Int), .int .i64 (d0 : Int), .int .i64 (h0 : Int), .int .u32 (i0 : Int)] 27)).alloc (.cells #[.int .i64 55, .int .i64 54, .int .i64 55, .int .i64 57, .int .i64 59, .int .i64 56, .int .i64 58, .int .i64 60, .int .i64 11, .int .i64 61] 3) = W2 at X2 R2 B2 L2 ⊢
    generalize w1.heap.size = b at R2 L2 Z1 ⊢
    have hz0 := R2.lt
    have hzl := block_lt_of_cell L2
    have X2d : Drawn W2.drew w.heap.size K S T E G I R ∧ W2.drew.cell? ⟨b + 1, m, none⟩ = some (.int .i64 (pn3 m : Int)) := ⟨X2, L2⟩
    have R2d : (W2.drewN 1).rowIs b 27 6 (insF k0 s0 t0 d0 h0 i0) := R2
    have B2d := below_drewN B2 1
    have hz0d : b < (W2.drewN 1).heap.size := hz0
    have hzld : b + 1 < (W2.drewN 1).heap.size := hzl
    clear X1 R1 B1 X2 R2 L2 B2 hz0 hzl Z2 Z3
    have Q3 : IntKind.i64.wrap (q : Int) = (q : Int) := by rw [IntKind.wrap_i64]; omega
    have Q4 : wrap64 (q : Int) = (q : Int) := by clear Q3; unfold wrap64; omega
    go_region_held3 (fun w' => (w'.cell? ⟨w.heap.size, 0, none⟩ = some (.int .i64 K) ∧ w'.cell? ⟨w.heap.size, 1, none⟩ = some (.int .i64 S) ∧ w'.cell? ⟨w.heap.size, 2, none⟩ = some (.int .i64 T) ∧ w'.cell? ⟨w.heap.size, 3, none⟩ = some (.int .i64 E) ∧ w'.cell? ⟨w.heap.size, 4, none⟩ = some (.int .i64 G) ∧ w'.cell? ⟨w.heap.size, 5, none⟩ = some (.int .u32 I) ∧ w'.cell? ⟨w.heap.size, 6, none⟩ = some (.int .u32 R)) ∧ w'.cell? ⟨b + 1, m, none⟩ = some (.int .i64 (pn3 m : Int)))
      (first | (with_reducible exact X2d) | (with_reducible exact X3) | (with_reducible exact ⟨drawn_off6 X3.1 (Nat.ne_of_gt Z1) _ _ _ _ _ _, X4⟩))
      (first
      | (go_at_call 22; (with_reducible refine (inst_any _ _ _ _ _ _ _ (pn3 m) _ hx k1 k2).mono ?_); rintro e w3 ⟨s, t, d, h, i, rfl, l1, l2, l3, l4, l5, hb3⟩; have X3 : Drawn w3 w.heap.size K S T E G I R ∧ w3.cell? ⟨b + 1, m, none⟩ = some (.int .i64 (pn3 m : Int)) := ⟨drawn_below X2d.1 hb3 (Nat.lt_trans Z1 hz0d), (hb3.cell (p := ⟨b + 1, m, none⟩) hzld).trans X2d.2⟩; have R3 := row_below R2d hb3 hz0d; obtain ⟨z3, y0, y1, y2, y3, y4, y5⟩ := row_one R3; have X4 := cell_off6 X3.2 (b := b) (Nat.ne_of_lt (Nat.lt_succ_self b)) (.int .i64 (pn3 m : Int)) (.int .i64 (s : Int)) (.int .i64 (t : Int)) (.int .i64 (d : Int)) (.int .i64 (h : Int)) (.int .u32 (i : Int))))
    all_goals
      clear Q3 Q4
      have a1 := D.ms (pn3 m) (by omega); have a2 := D.mt (pn3 m) (by omega); have a3 := D.md (pn3 m) (by omega); have a4 := D.mh (pn3 m) (by omega); have a5 := D.mi (pn3 m) (by omega)
      have X5 := drawn_off6 X3.1 (Nat.ne_of_gt Z1) (.int .i64 (pn3 m : Int)) (.int .i64 (s : Int)) (.int .i64 (t : Int)) (.int .i64 (d : Int)) (.int .i64 (h : Int)) (.int .u32 (i : Int))
      have R5 := row_set6 R3 (pn3 m : Int) s t d h i
      have B5 := bel6 (below_then B2d hb3 (Nat.le_refl _)) (Nat.le_of_lt Z1) (.int .i64 (pn3 m : Int)) (.int .i64 (s : Int)) (.int .i64 (t : Int)) (.int .i64 (d : Int)) (.int .i64 (h : Int)) (.int .u32 (i : Int))
      generalize ((((((w3.setCell ⟨b, 0, none⟩ (.int .i64 (pn3 m : Int))).setCell ⟨b, 1, none⟩ (.int .i64 (s : Int))).setCell ⟨b, 2, none⟩ (.int .i64 (t : Int))).setCell ⟨b, 3, none⟩ (.int .i64 (d : Int))).setCell ⟨b, 4, none⟩ (.int .i64 (h : Int))).setCell ⟨b, 5, none⟩ (.int .u32 (i : Int))) = W5 at X5 R5 B5 ⊢
      clear X4 X3 R3 z3 y0 y1 y2 y3 y4 y5 X2d R2d B2d hz0d hzld hb3 T1 Q1 T2 Q2
      obtain ⟨y0, y1, y2, y3, y4, y5, y6⟩ := X5
      obtain ⟨z5, c0, c1, c2, c3, c4, c5⟩ := row_one R5
      simp only [insF] at c0 c1 c2 c3 c4 c5
      have hz5 := R5.lt
      have hzw := Nat.lt_trans Z1 hz5
      have e7 : bits .and .i64 E 7 = (((E % 8).toNat : Nat) : Int) := (and_p E 7 3 rfl (by omega)).trans (by show E % 8 = _; omega)
      have j1 : (E % 8).toNat < 8 := by omega
      generalize (E % 8).toNat = j at e7 j1
      have j2 : (j : Int) < 8 := by omega
      have p1 := pn4_r j j1
      have L8 := ints_at (w := W5) (cs := #[.int .i64 12, .int .i64 13, .int .i64 11, .int .i64 9, .int .i64 10, .int .i64 2, .int .i64 0, .int .i64 14]) (t := 3) (n := 8) (f := pn4) (by kernel_rfl) j j1
      cases f55 : ((pn3 m : Int) == 55)
      · cases f54 : ((pn3 m : Int) == 54)
        · go_wp2_with fail
          refine (rword_any _ _ _ _ _ _ _ (Lib.hid (inr_small (by omega) (by omega) (by omega) (by omega) (by omega) (by omega)))).mono ?_
          rintro e w9 ⟨rfl, hb9⟩
          go_wp2
          go_ret
          exact ⟨_, (wdI_rng _ _ _ _ _ _).1, (wdI_rng _ _ _ _ _ _).2, rfl, below_then (by (repeat' (first | (with_reducible exact B5) | (with_reducible apply bel_set) | (with_reducible apply bel_alloc) | (with_reducible apply below_drewN) | (simp; done) | (simp; omega) | omega | (simp [World.setCell]; done) | (simp [World.setCell]; omega)))) hb9 (Nat.le_refl _)⟩
        · go_wp2_with fail
          refine (rword_any _ _ _ _ _ _ _ (Lib.hid (inr_small (by omega) (by omega) (by omega) (by omega) (by omega) (by omega)))).mono ?_
          rintro e w9 ⟨rfl, hb9⟩
          go_wp2
          go_ret
          exact ⟨_, (wdI_rng _ _ _ _ _ _).1, (wdI_rng _ _ _ _ _ _).2, rfl, below_then (by (repeat' (first | (with_reducible exact B5) | (with_reducible apply bel_set) | (with_reducible apply bel_alloc) | (with_reducible apply below_drewN) | (simp; done) | (simp; omega) | omega | (simp [World.setCell]; done) | (simp [World.setCell]; omega)))) hb9 (Nat.le_refl _)⟩
      · go_wp2_with fail
        refine (rword_any _ _ _ _ _ _ _ (Lib.hid (inr_small (by omega) (by omega) (by omega) (by omega) (by omega) (by omega)))).mono ?_
        rintro e w9 ⟨rfl, hb9⟩
        go_wp2
        go_ret
        exact ⟨_, (wdI_rng _ _ _ _ _ _).1, (wdI_rng _ _ _ _ _ _).2, rfl, below_then (by (repeat' (first | (with_reducible exact B5) | (with_reducible apply bel_set) | (with_reducible apply bel_alloc) | (with_reducible apply below_drewN) | (simp; done) | (simp; omega) | omega | (simp [World.setCell]; done) | (simp [World.setCell]; omega)))) hb9 (Nat.le_refl _)⟩
  · have hq : (v : Int) % 16 = 10 := by omega
    clear hr X1 R1
    go_wp2_with fail
    refine (rword_any _ _ _ _ _ _ _ (Lib.hid (inr_small (by omega) (by omega) (by omega) (by omega) (by omega) (by omega)))).mono ?_
    rintro e w9 ⟨rfl, hb9⟩
    go_wp2
    go_ret
    exact ⟨_, (wdI_rng _ _ _ _ _ _).1, (wdI_rng _ _ _ _ _ _).2, rfl, below_then (by (repeat' (first | (with_reducible exact B1) | (with_reducible apply bel_set) | (with_reducible apply bel_alloc) | (with_reducible apply below_drewN) | (simp; done) | (simp; omega) | omega | (simp [World.setCell]; done) | (simp [World.setCell]; omega)))) hb9 (Nat.le_refl _)⟩
  · have hq : (v : Int) % 16 = 11 := by omega
    clear hr X1 R1
    go_wp2_with fail
    refine (rword_any _ _ _ _ _ _ _ (Lib.hid (inr_small (by omega) (by omega) (by omega) (by omega) (by omega) (by omega)))).mono ?_
    rintro e w9 ⟨rfl, hb9⟩
    go_wp2
    go_ret
    exact ⟨_, (wdI_rng _ _ _ _ _ _).1, (wdI_rng _ _ _ _ _ _).2, rfl, below_then (by (repeat' (first | (with_reducible exact B1) | (with_reducible apply bel_set) | (with_reducible apply bel_alloc) | (with_reducible apply below_drewN) | (simp; done) | (simp; omega) | omega | (simp [World.setCell]; done) | (simp [World.setCell]; omega)))) hb9 (Nat.le_refl _)⟩
  · have hq : (v : Int) % 16 = 12 := by omega
    clear hr X1 R1
    go_wp2_with fail
    refine (rword_any _ _ _ _ _ _ _ (Lib.hid (inr_small (by omega) (by omega) (by omega) (by omega) (by omega) (by omega)))).mono ?_
    rintro e w9 ⟨rfl, hb9⟩
    go_wp2
    go_ret
    exact ⟨_, (wdI_rng _ _ _ _ _ _).1, (wdI_rng _ _ _ _ _ _).2, rfl, below_then (by (repeat' (first | (with_reducible exact B1) | (with_reducible apply bel_set) | (with_reducible apply bel_alloc) | (with_reducible apply below_drewN) | (simp; done) | (simp; omega) | omega | (simp [World.setCell]; done) | (simp [World.setCell]; omega)))) hb9 (Nat.le_refl _)⟩
  · have hq : (v : Int) % 16 = 13 := by omega
    clear hr X1 R1
    go_wp2_with fail
    refine (rword_any _ _ _ _ _ _ _ (Lib.hid (inr_small (by omega) (by omega) (by omega) (by omega) (by omega) (by omega)))).mono ?_
    rintro e w9 ⟨rfl, hb9⟩
    go_wp2
    go_ret
    exact ⟨_, (wdI_rng _ _ _ _ _ _).1, (wdI_rng _ _ _ _ _ _).2, rfl, below_then (by (repeat' (first | (with_reducible exact B1) | (with_reducible apply bel_set) | (with_reducible apply bel_alloc) | (with_reducible apply below_drewN) | (simp; done) | (simp; omega) | omega | (simp [World.setCell]; done) | (simp [World.setCell]; omega)))) hb9 (Nat.le_refl _)⟩
  · have hq : (v : Int) % 16 = 14 := by omega
    clear hr X1 R1
    go_wp2_with fail
    refine (rword_any _ _ _ _ _ _ _ (Lib.hid (inr_small (by omega) (by omega) (by omega) (by omega) (by omega) (by omega)))).mono ?_
    rintro e w9 ⟨rfl, hb9⟩
    go_wp2
    go_ret
    exact ⟨_, (wdI_rng _ _ _ _ _ _).1, (wdI_rng _ _ _ _ _ _).2, rfl, below_then (by (repeat' (first | (with_reducible exact B1) | (with_reducible apply bel_set) | (with_reducible apply bel_alloc) | (with_reducible apply below_drewN) | (simp; done) | (simp; omega) | omega | (simp [World.setCell]; done) | (simp [World.setCell]; omega)))) hb9 (Nat.le_refl _)⟩
  · have hq : (v : Int) % 16 = 15 := by omega
    clear hr X1 R1
    go_wp2_with fail
    refine (rword_any _ _ _ _ _ _ _ (Lib.hid (inr_small (by omega) (by omega) (by omega) (by omega) (by omega) (by omega)))).mono ?_
    rintro e w9 ⟨rfl, hb9⟩
    go_wp2
    go_ret
    exact ⟨_, (wdI_rng _ _ _ _ _ _).1, (wdI_rng _ _ _ _ _ _).2, rfl, below_then (by (repeat' (first | (with_reducible exact B1) | (with_reducible apply bel_set) | (with_reducible apply bel_alloc) | (with_reducible apply below_drewN) | (simp; done) | (simp; omega) | omega | (simp [World.setCell]; done) | (simp [World.setCell]; omega)))) hb9 (Nat.le_refl _)⟩
end Go.Proofs.YtngfjjgejpkmmaaDoor
