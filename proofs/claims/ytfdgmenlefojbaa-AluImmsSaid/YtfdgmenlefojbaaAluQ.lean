/-
  Chapter 4: the walk of AluImms: it returns true, and nothing that was there has turned.
-/
import Derived.Test.YtfdgmenlefojbaaAluS
namespace Go.Proofs.Ytfdgmenlefojbaa
open Go.RowKit
set_option linter.unusedVariables false

theorem or_hi (v : Int) (v0 : 0 ≤ v) (v1 : v < 65536) : bits .or .u32 v 4294901760 = v + 4294901760 := by
  obtain ⟨a, rfl⟩ := Int.eq_ofNat_of_zero_le v0
  rw [show (4294901760 : Int) = ((65535 * 2 ^ 16 : Nat) : Int) from rfl, Go.u32_or_nat _ _ (by omega) (by omega), Nat.or_comm, D.or_add 65535 a 16 (by omega)]
  omega
theorem sg_lo (v : Int) (v0 : 0 ≤ v) (v1 : v < 32768) : W.sign v 16 = v := by
  rw [W.sign_of v 16 (by omega) (by omega)]
  simp
  rw [if_neg (by omega)]
  omega
theorem sg_hi (v : Int) (v0 : 32768 ≤ v) (v1 : v < 65536) : W.sign v 16 = v + 4294901760 := by
  rw [W.sign_of v 16 (by omega) (by omega)]
  simp
  rw [if_pos (by omega)]
  omega

/-- the cells of a pair in block b -/
def Pr (w : World) (b : Nat) (x y : Int) : Prop := w.cell? ⟨b, 0, none⟩ = some (.int .i64 x) ∧ w.cell? ⟨b, 1, none⟩ = some (.int .i64 y)
theorem pr_below {w w' : World} {b B : Nat} {x y : Int} (h : Pr w b x y) (hb : Below B w w') (hB : b < B) : Pr w' b x y :=
  ⟨(hb.cell (p := ⟨b, 0, none⟩) hB).trans h.1, (hb.cell (p := ⟨b, 1, none⟩) hB).trans h.2⟩
theorem pr_new (w : World) (x y : Int) : Pr (w.alloc (.cells #[.int .i64 x, .int .i64 y] 36)) w.heap.size x y := ⟨by simp, by simp⟩
theorem bthen {B : Nat} {a b c : World} (h : Below B a b) (k : Below b.heap.size b c) (hB : B ≤ a.heap.size) : Below B a c := below_then h k hB
theorem im1 (s v g : Int) (hg : g = W.sign v 16) : nv 47 0 v s 9 = nv 23 0 0 s g ∧ nv 46 0 v s 9 = nv 22 0 0 s g ∧ nv 48 0 v s 9 = nv 30 0 0 s g ∧ nv 49 0 v s 9 = nv 31 0 0 s g ∧ trI 46 v s 9 = trI 22 0 s g := by
  subst hg; exact ⟨rfl, rfl, rfl, rfl, rfl⟩
theorem im3 (s n : Int) : nv 1 (n % 32) 0 0 s = nv 4 0 0 (n % 32 + 32) s ∧ nv 2 (n % 32) 0 0 s = nv 5 0 0 (n % 32 + 32) s ∧ nv 3 (n % 32) 0 0 s = nv 6 0 0 (n % 32 + 32) s := by
  have e : (n % 32 + 32) % 32 = n % 32 % 32 := by omega
  refine ⟨?_, ?_, ?_⟩
  · show s * 2 ^ (n % 32 % 32).toNat % 4294967296 = s * 2 ^ ((n % 32 + 32) % 32).toNat % 4294967296
    rw [e]
  · show s / 2 ^ (n % 32 % 32).toNat = s / 2 ^ ((n % 32 + 32) % 32).toNat
    rw [e]
  · show W.sar s (n % 32) = W.sar s (n % 32 + 32)
    unfold W.sar
    rw [e]

set_option maxRecDepth 100000 in
set_option maxHeartbeats 40000000 in
theorem imms_walk (s imm n : Int) (w : World) (s0 : 0 ≤ s) (s1 : s < 4294967296) (t0 : 0 ≤ imm) (t1 : imm < 4294967296) : Calls Try.prog 6 #[.int .u32 s, .int .u32 imm, .int .i64 n] w (TrB w) := by
  have z := and16 imm t0 t1
  have v0 : 0 ≤ imm % 65536 := by omega
  have v1 : imm % 65536 < 65536 := by omega
  generalize imm % 65536 = v at z v0 v1
  have v2 : v < 4294967296 := by omega
  obtain ⟨g0, g1⟩ := sg_rng v v0 v2
  obtain ⟨n1', n2', n3'⟩ := im3 s n
  have N1 := Lib.hid n1'
  have N2 := Lib.hid n2'
  have N3 := Lib.hid n3'
  clear n1' n2' n3'
  have A50 := Lib.hid (show nv 50 0 v s 9 = nv 26 0 0 s v from rfl)
  have A51 := Lib.hid (show nv 51 0 v s 9 = nv 27 0 0 s v from rfl)
  have A52 := Lib.hid (show nv 52 0 v s 9 = nv 28 0 0 s v from rfl)
  have T47 := Lib.hid (show trI 47 v s 9 = false from rfl)
  have T48 := Lib.hid (show trI 48 v s 9 = false from rfl)
  have T49 := Lib.hid (show trI 49 v s 9 = false from rfl)
  have T23 := Lib.hid (fun (g : Int) => show trI 23 0 s g = false from rfl)
  have T30 := Lib.hid (fun (g : Int) => show trI 30 0 s g = false from rfl)
  have T31 := Lib.hid (fun (g : Int) => show trI 31 0 s g = false from rfl)
  by_cases hv : 32768 ≤ v
  · obtain ⟨g, HG⟩ : ∃ g, Hid (g = W.sign v 16) := ⟨_, rfl⟩
    have O : bits .or .u32 v 4294901760 = g := by rw [HG.out, or_hi v v0 v1, sg_hi v hv v1]
    rw [← HG.out] at g0 g1
    obtain ⟨a1, a2, a3, a4, a5⟩ := im1 s v g HG.out
    obtain ⟨tb, T22⟩ : ∃ tb, Hid (trI 22 0 s g = tb) := ⟨_, rfl⟩
    have T46 := Lib.hid (a5.trans T22.out)
    have A47 := Lib.hid a1
    have A46 := Lib.hid a2
    have A48 := Lib.hid a3
    have A49 := Lib.hid a4
    clear a1 a2 a3 a4 a5
    go_enter Try.func6, Try.ntmps6
    go_wp2
    have q0 : (w.alloc (.cells #[.int .i64 47, .int .i64 23, .int .i64 46, .int .i64 22, .int .i64 48, .int .i64 30, .int .i64 49, .int .i64 31] 36)).cell? ⟨w.heap.size, 0, none⟩ = some (.int .i64 47) := by simp
    have q1 : (w.alloc (.cells #[.int .i64 47, .int .i64 23, .int .i64 46, .int .i64 22, .int .i64 48, .int .i64 30, .int .i64 49, .int .i64 31] 36)).cell? ⟨w.heap.size, 1, none⟩ = some (.int .i64 23) := by simp
    have q2 : (w.alloc (.cells #[.int .i64 47, .int .i64 23, .int .i64 46, .int .i64 22, .int .i64 48, .int .i64 30, .int .i64 49, .int .i64 31] 36)).cell? ⟨w.heap.size, 2, none⟩ = some (.int .i64 46) := by simp
    have q3 : (w.alloc (.cells #[.int .i64 47, .int .i64 23, .int .i64 46, .int .i64 22, .int .i64 48, .int .i64 30, .int .i64 49, .int .i64 31] 36)).cell? ⟨w.heap.size, 3, none⟩ = some (.int .i64 22) := by simp
    have q4 : (w.alloc (.cells #[.int .i64 47, .int .i64 23, .int .i64 46, .int .i64 22, .int .i64 48, .int .i64 30, .int .i64 49, .int .i64 31] 36)).cell? ⟨w.heap.size, 4, none⟩ = some (.int .i64 48) := by simp
    have q5 : (w.alloc (.cells #[.int .i64 47, .int .i64 23, .int .i64 46, .int .i64 22, .int .i64 48, .int .i64 30, .int .i64 49, .int .i64 31] 36)).cell? ⟨w.heap.size, 5, none⟩ = some (.int .i64 30) := by simp
    have q6 : (w.alloc (.cells #[.int .i64 47, .int .i64 23, .int .i64 46, .int .i64 22, .int .i64 48, .int .i64 30, .int .i64 49, .int .i64 31] 36)).cell? ⟨w.heap.size, 6, none⟩ = some (.int .i64 49) := by simp
    have q7 : (w.alloc (.cells #[.int .i64 47, .int .i64 23, .int .i64 46, .int .i64 22, .int .i64 48, .int .i64 30, .int .i64 49, .int .i64 31] 36)).cell? ⟨w.heap.size, 7, none⟩ = some (.int .i64 31) := by simp
    have hT : w.heap.size < (w.alloc (.cells #[.int .i64 47, .int .i64 23, .int .i64 46, .int .i64 22, .int .i64 48, .int .i64 30, .int .i64 49, .int .i64 31] 36)).heap.size := by simp
    have hW : Below w.heap.size w (w.alloc (.cells #[.int .i64 47, .int .i64 23, .int .i64 46, .int .i64 22, .int .i64 48, .int .i64 30, .int .i64 49, .int .i64 31] 36)) := below_new
    generalize w.alloc (.cells #[.int .i64 47, .int .i64 23, .int .i64 46, .int .i64 22, .int .i64 48, .int .i64 30, .int .i64 49, .int .i64 31] 36) = wT at q0 q1 q2 q3 q4 q5 q6 q7 hT hW ⊢
    have hTT : wT.heap.size ≤ wT.heap.size := Nat.le_refl _
    go_loopw [41] (fun i wr => ∃ k : Nat, k ≤ 4 ∧ i = .int .i64 k ∧ Below wT.heap.size wT wr) (fun i _ => 4 - (intOf i).toNat)
    case atStart => exact ⟨0, by omega, rfl, Below.refl _ _⟩
    case round =>
      obtain ⟨k, hk, rfl, hb⟩ := hrel
      by_cases hlt : k < 4
      · have hc : k = 0 ∨ k = 1 ∨ k = 2 ∨ k = 3 := by omega
        rcases hc with hc | hc | hc | hc
        · obtain rfl : k = 0 := by omega
          have c0 := (hb.cell (p := ⟨w.heap.size, 0, none⟩) hT).trans q0
          have c1 := (hb.cell (p := ⟨w.heap.size, 1, none⟩) hT).trans q1
          have hsz := hb.size
          go_wp2_with fail
          clear c0 c1
          refine (do47 _ _ _ _ _ _ _ _ s0 s1 (by omega) (by omega) v0 v2).mono ?_
          rintro e w1 ⟨rfl, hb1⟩
          rw [A47.out]
          have X1 := pr_below (pr_new wr 47 23) hb1 (by simp)
          have hz1 : wr.heap.size < w1.heap.size := by have := hb1.size; simp at this; omega
          have b1 := bthen (below_then hb (below_new (w := wr)) hTT) hb1 hTT
          clear hb1
          obtain ⟨x0, x1⟩ := X1
          go_wp2_with fail
          refine (do23 _ _ _ _ _ _ _ _ s0 s1 g0 g1 (by omega) (by omega)).mono ?_
          rintro e w2 ⟨rfl, hb2⟩
          have X2 := pr_below ⟨x0, x1⟩ hb2 hz1
          have hz2 : wr.heap.size < w2.heap.size := Nat.lt_of_lt_of_le hz1 hb2.size
          have b2 := bthen b1 hb2 hTT
          clear hb2 b1 x0 x1 hz1
          generalize nv 23 0 0 s g = r
          go_wp2_with fail
          have X2d : Pr (w2.drewN 1) wr.heap.size 47 23 := X2
          have hz2d : wr.heap.size < (w2.drewN 1).heap.size := hz2
          have b2d := below_drewN b2 1
          clear X2 hz2 b2
          go_region_held3 (fun w' => w'.cell? ⟨wr.heap.size, 0, none⟩ = some (.int .i64 47) ∧ w'.cell? ⟨wr.heap.size, 1, none⟩ = some (.int .i64 23))
            (first | exact X2d | exact X3 | exact X4)
            (first
            | (go_at_call 13; (with_reducible refine (tr_any 47 0 0 0 0 v s 9 _ s0 s1 (by omega) (by omega) v0 v2).mono ?_); rintro e w3 ⟨rfl, g3⟩; rw [T47.out]; have X3 := pr_below X2d g3 hz2d; have hz3 := Nat.lt_of_lt_of_le hz2d g3.size; have b3 := bthen b2d g3 hTT)
            | (go_at_call 13; (with_reducible refine (tr_any 23 0 0 0 0 0 s g w3 s0 s1 g0 g1 (by omega) (by omega)).mono ?_); rintro e w4 ⟨rfl, g4⟩; rw [T23.out]; have X4 := pr_below X3 g4 hz3; have b4 := bthen b3 g4 hTT))
          all_goals
            go_wp2
            go_roundw
            case rel => exact ⟨1, by omega, by rfl, b4⟩
            case measure => simp [intOf]
        · obtain rfl : k = 1 := by omega
          have c0 := (hb.cell (p := ⟨w.heap.size, 2, none⟩) hT).trans q2
          have c1 := (hb.cell (p := ⟨w.heap.size, 3, none⟩) hT).trans q3
          have hsz := hb.size
          go_wp2_with fail
          clear c0 c1
          refine (do46 _ _ _ _ _ _ _ _ s0 s1 (by omega) (by omega) v0 v2).mono ?_
          rintro e w1 ⟨rfl, hb1⟩
          rw [A46.out]
          have X1 := pr_below (pr_new wr 46 22) hb1 (by simp)
          have hz1 : wr.heap.size < w1.heap.size := by have := hb1.size; simp at this; omega
          have b1 := bthen (below_then hb (below_new (w := wr)) hTT) hb1 hTT
          clear hb1
          obtain ⟨x0, x1⟩ := X1
          go_wp2_with fail
          refine (do22 _ _ _ _ _ _ _ _ s0 s1 g0 g1 (by omega) (by omega)).mono ?_
          rintro e w2 ⟨rfl, hb2⟩
          have X2 := pr_below ⟨x0, x1⟩ hb2 hz1
          have hz2 : wr.heap.size < w2.heap.size := Nat.lt_of_lt_of_le hz1 hb2.size
          have b2 := bthen b1 hb2 hTT
          clear hb2 b1 x0 x1 hz1
          generalize nv 22 0 0 s g = r
          go_wp2_with fail
          have X2d : Pr (w2.drewN 1) wr.heap.size 46 22 := X2
          have hz2d : wr.heap.size < (w2.drewN 1).heap.size := hz2
          have b2d := below_drewN b2 1
          clear X2 hz2 b2
          go_region_held3 (fun w' => w'.cell? ⟨wr.heap.size, 0, none⟩ = some (.int .i64 46) ∧ w'.cell? ⟨wr.heap.size, 1, none⟩ = some (.int .i64 22))
            (first | exact X2d | exact X3 | exact X4)
            (first
            | (go_at_call 13; (with_reducible refine (tr_any 46 0 0 0 0 v s 9 _ s0 s1 (by omega) (by omega) v0 v2).mono ?_); rintro e w3 ⟨rfl, g3⟩; rw [T46.out]; have X3 := pr_below X2d g3 hz2d; have hz3 := Nat.lt_of_lt_of_le hz2d g3.size; have b3 := bthen b2d g3 hTT)
            | (go_at_call 13; (with_reducible refine (tr_any 22 0 0 0 0 0 s g w3 s0 s1 g0 g1 (by omega) (by omega)).mono ?_); rintro e w4 ⟨rfl, g4⟩; rw [T22.out]; have X4 := pr_below X3 g4 hz3; have b4 := bthen b3 g4 hTT))
          all_goals
            go_wp2
            go_roundw
            case rel => exact ⟨2, by omega, by rfl, b4⟩
            case measure => simp [intOf]
        · obtain rfl : k = 2 := by omega
          have c0 := (hb.cell (p := ⟨w.heap.size, 4, none⟩) hT).trans q4
          have c1 := (hb.cell (p := ⟨w.heap.size, 5, none⟩) hT).trans q5
          have hsz := hb.size
          go_wp2_with fail
          clear c0 c1
          refine (do48 _ _ _ _ _ _ _ _ s0 s1 (by omega) (by omega) v0 v2).mono ?_
          rintro e w1 ⟨rfl, hb1⟩
          rw [A48.out]
          have X1 := pr_below (pr_new wr 48 30) hb1 (by simp)
          have hz1 : wr.heap.size < w1.heap.size := by have := hb1.size; simp at this; omega
          have b1 := bthen (below_then hb (below_new (w := wr)) hTT) hb1 hTT
          clear hb1
          obtain ⟨x0, x1⟩ := X1
          go_wp2_with fail
          refine (do30 _ _ _ _ _ _ _ _ s0 s1 g0 g1 (by omega) (by omega)).mono ?_
          rintro e w2 ⟨rfl, hb2⟩
          have X2 := pr_below ⟨x0, x1⟩ hb2 hz1
          have hz2 : wr.heap.size < w2.heap.size := Nat.lt_of_lt_of_le hz1 hb2.size
          have b2 := bthen b1 hb2 hTT
          clear hb2 b1 x0 x1 hz1
          generalize nv 30 0 0 s g = r
          go_wp2_with fail
          have X2d : Pr (w2.drewN 1) wr.heap.size 48 30 := X2
          have hz2d : wr.heap.size < (w2.drewN 1).heap.size := hz2
          have b2d := below_drewN b2 1
          clear X2 hz2 b2
          go_region_held3 (fun w' => w'.cell? ⟨wr.heap.size, 0, none⟩ = some (.int .i64 48) ∧ w'.cell? ⟨wr.heap.size, 1, none⟩ = some (.int .i64 30))
            (first | exact X2d | exact X3 | exact X4)
            (first
            | (go_at_call 13; (with_reducible refine (tr_any 48 0 0 0 0 v s 9 _ s0 s1 (by omega) (by omega) v0 v2).mono ?_); rintro e w3 ⟨rfl, g3⟩; rw [T48.out]; have X3 := pr_below X2d g3 hz2d; have hz3 := Nat.lt_of_lt_of_le hz2d g3.size; have b3 := bthen b2d g3 hTT)
            | (go_at_call 13; (with_reducible refine (tr_any 30 0 0 0 0 0 s g w3 s0 s1 g0 g1 (by omega) (by omega)).mono ?_); rintro e w4 ⟨rfl, g4⟩; rw [T30.out]; have X4 := pr_below X3 g4 hz3; have b4 := bthen b3 g4 hTT))
          all_goals
            go_wp2
            go_roundw
            case rel => exact ⟨3, by omega, by rfl, b4⟩
            case measure => simp [intOf]
        · obtain rfl : k = 3 := by omega
          have c0 := (hb.cell (p := ⟨w.heap.size, 6, none⟩) hT).trans q6
          have c1 := (hb.cell (p := ⟨w.heap.size, 7, none⟩) hT).trans q7
          have hsz := hb.size
          go_wp2_with fail
          clear c0 c1
          refine (do49 _ _ _ _ _ _ _ _ s0 s1 (by omega) (by omega) v0 v2).mono ?_
          rintro e w1 ⟨rfl, hb1⟩
          rw [A49.out]
          have X1 := pr_below (pr_new wr 49 31) hb1 (by simp)
          have hz1 : wr.heap.size < w1.heap.size := by have := hb1.size; simp at this; omega
          have b1 := bthen (below_then hb (below_new (w := wr)) hTT) hb1 hTT
          clear hb1
          obtain ⟨x0, x1⟩ := X1
          go_wp2_with fail
          refine (do31 _ _ _ _ _ _ _ _ s0 s1 g0 g1 (by omega) (by omega)).mono ?_
          rintro e w2 ⟨rfl, hb2⟩
          have X2 := pr_below ⟨x0, x1⟩ hb2 hz1
          have hz2 : wr.heap.size < w2.heap.size := Nat.lt_of_lt_of_le hz1 hb2.size
          have b2 := bthen b1 hb2 hTT
          clear hb2 b1 x0 x1 hz1
          generalize nv 31 0 0 s g = r
          go_wp2_with fail
          have X2d : Pr (w2.drewN 1) wr.heap.size 49 31 := X2
          have hz2d : wr.heap.size < (w2.drewN 1).heap.size := hz2
          have b2d := below_drewN b2 1
          clear X2 hz2 b2
          go_region_held3 (fun w' => w'.cell? ⟨wr.heap.size, 0, none⟩ = some (.int .i64 49) ∧ w'.cell? ⟨wr.heap.size, 1, none⟩ = some (.int .i64 31))
            (first | exact X2d | exact X3 | exact X4)
            (first
            | (go_at_call 13; (with_reducible refine (tr_any 49 0 0 0 0 v s 9 _ s0 s1 (by omega) (by omega) v0 v2).mono ?_); rintro e w3 ⟨rfl, g3⟩; rw [T49.out]; have X3 := pr_below X2d g3 hz2d; have hz3 := Nat.lt_of_lt_of_le hz2d g3.size; have b3 := bthen b2d g3 hTT)
            | (go_at_call 13; (with_reducible refine (tr_any 31 0 0 0 0 0 s g w3 s0 s1 g0 g1 (by omega) (by omega)).mono ?_); rintro e w4 ⟨rfl, g4⟩; rw [T31.out]; have X4 := pr_below X3 g4 hz3; have b4 := bthen b3 g4 hTT))
          all_goals
            go_wp2
            go_roundw
            case rel => exact ⟨4, by omega, by rfl, b4⟩
            case measure => simp [intOf]
      · have hkd : decide ((k : Int) < 4) = false := by simp; omega
        have hbz := hW.trans (hb.mono hW.size)
        clear hb hW q0 q1 q2 q3 q4 q5 q6 q7 hT hTT
        go_wp2
        have q0 : (wr.alloc (.cells #[.int .i64 50, .int .i64 26, .int .i64 51, .int .i64 27, .int .i64 52, .int .i64 28] 36)).cell? ⟨wr.heap.size, 0, none⟩ = some (.int .i64 50) := by simp
        have q1 : (wr.alloc (.cells #[.int .i64 50, .int .i64 26, .int .i64 51, .int .i64 27, .int .i64 52, .int .i64 28] 36)).cell? ⟨wr.heap.size, 1, none⟩ = some (.int .i64 26) := by simp
        have q2 : (wr.alloc (.cells #[.int .i64 50, .int .i64 26, .int .i64 51, .int .i64 27, .int .i64 52, .int .i64 28] 36)).cell? ⟨wr.heap.size, 2, none⟩ = some (.int .i64 51) := by simp
        have q3 : (wr.alloc (.cells #[.int .i64 50, .int .i64 26, .int .i64 51, .int .i64 27, .int .i64 52, .int .i64 28] 36)).cell? ⟨wr.heap.size, 3, none⟩ = some (.int .i64 27) := by simp
        have q4 : (wr.alloc (.cells #[.int .i64 50, .int .i64 26, .int .i64 51, .int .i64 27, .int .i64 52, .int .i64 28] 36)).cell? ⟨wr.heap.size, 4, none⟩ = some (.int .i64 52) := by simp
        have q5 : (wr.alloc (.cells #[.int .i64 50, .int .i64 26, .int .i64 51, .int .i64 27, .int .i64 52, .int .i64 28] 36)).cell? ⟨wr.heap.size, 5, none⟩ = some (.int .i64 28) := by simp
        have hT : wr.heap.size < (wr.alloc (.cells #[.int .i64 50, .int .i64 26, .int .i64 51, .int .i64 27, .int .i64 52, .int .i64 28] 36)).heap.size := by simp
        have hW : Below w.heap.size w (wr.alloc (.cells #[.int .i64 50, .int .i64 26, .int .i64 51, .int .i64 27, .int .i64 52, .int .i64 28] 36)) := below_then hbz (below_new (w := wr)) (Nat.le_refl _)
        generalize wr.alloc (.cells #[.int .i64 50, .int .i64 26, .int .i64 51, .int .i64 27, .int .i64 52, .int .i64 28] 36) = wU at q0 q1 q2 q3 q4 q5 hT hW ⊢
        generalize wr.heap.size = bU at q0 q1 q2 q3 q4 q5 hT ⊢
        have hTT : wU.heap.size ≤ wU.heap.size := Nat.le_refl _
        clear hlt hkd hbz
        go_loopw [95] (fun i wr => ∃ k : Nat, k ≤ 3 ∧ i = .int .i64 k ∧ Below wU.heap.size wU wr) (fun i _ => 3 - (intOf i).toNat)
        case atStart => exact ⟨0, by omega, rfl, Below.refl _ _⟩
        case round =>
          clear hk
          obtain ⟨k, hk, rfl, hb⟩ := hrel
          by_cases hlt : k < 3
          · have hc : k = 0 ∨ k = 1 ∨ k = 2 := by omega
            rcases hc with hc | hc | hc
            · obtain rfl : k = 0 := by omega
              have c0 := (hb.cell (p := ⟨bU, 0, none⟩) hT).trans q0
              have c1 := (hb.cell (p := ⟨bU, 1, none⟩) hT).trans q1
              have hsz := hb.size
              go_wp2_with fail
              clear c0 c1
              refine (do50 _ _ _ _ _ _ _ _ s0 s1 (by omega) (by omega) v0 v2).mono ?_
              rintro e w1 ⟨rfl, hb1⟩
              rw [A50.out]
              have X1 := pr_below (pr_new wr 50 26) hb1 (by simp)
              have hz1 : wr.heap.size < w1.heap.size := by have := hb1.size; simp at this; omega
              have b1 := bthen (below_then hb (below_new (w := wr)) hTT) hb1 hTT
              clear hb1
              obtain ⟨x0, x1⟩ := X1
              go_wp2_with fail
              refine (do26 _ _ _ _ _ _ _ _ s0 s1 v0 v2 (by omega) (by omega)).mono ?_
              rintro e w2 ⟨rfl, hb2⟩
              have b2 := bthen b1 hb2 hTT
              clear hb2 b1 x0 x1
              go_wp2
              go_roundw
              case rel => first | exact ⟨1, by omega, by rfl, b2⟩ | ((repeat apply Exists.intro); exact ⟨⟨1, by omega, by rfl, b2⟩, rfl⟩)
              case measure => simp [intOf]
            · obtain rfl : k = 1 := by omega
              have c0 := (hb.cell (p := ⟨bU, 2, none⟩) hT).trans q2
              have c1 := (hb.cell (p := ⟨bU, 3, none⟩) hT).trans q3
              have hsz := hb.size
              go_wp2_with fail
              clear c0 c1
              refine (do51 _ _ _ _ _ _ _ _ s0 s1 (by omega) (by omega) v0 v2).mono ?_
              rintro e w1 ⟨rfl, hb1⟩
              rw [A51.out]
              have X1 := pr_below (pr_new wr 51 27) hb1 (by simp)
              have hz1 : wr.heap.size < w1.heap.size := by have := hb1.size; simp at this; omega
              have b1 := bthen (below_then hb (below_new (w := wr)) hTT) hb1 hTT
              clear hb1
              obtain ⟨x0, x1⟩ := X1
              go_wp2_with fail
              refine (do27 _ _ _ _ _ _ _ _ s0 s1 v0 v2 (by omega) (by omega)).mono ?_
              rintro e w2 ⟨rfl, hb2⟩
              have b2 := bthen b1 hb2 hTT
              clear hb2 b1 x0 x1
              go_wp2
              go_roundw
              case rel => first | exact ⟨2, by omega, by rfl, b2⟩ | ((repeat apply Exists.intro); exact ⟨⟨2, by omega, by rfl, b2⟩, rfl⟩)
              case measure => simp [intOf]
            · obtain rfl : k = 2 := by omega
              have c0 := (hb.cell (p := ⟨bU, 4, none⟩) hT).trans q4
              have c1 := (hb.cell (p := ⟨bU, 5, none⟩) hT).trans q5
              have hsz := hb.size
              go_wp2_with fail
              clear c0 c1
              refine (do52 _ _ _ _ _ _ _ _ s0 s1 (by omega) (by omega) v0 v2).mono ?_
              rintro e w1 ⟨rfl, hb1⟩
              rw [A52.out]
              have X1 := pr_below (pr_new wr 52 28) hb1 (by simp)
              have hz1 : wr.heap.size < w1.heap.size := by have := hb1.size; simp at this; omega
              have b1 := bthen (below_then hb (below_new (w := wr)) hTT) hb1 hTT
              clear hb1
              obtain ⟨x0, x1⟩ := X1
              go_wp2_with fail
              refine (do28 _ _ _ _ _ _ _ _ s0 s1 v0 v2 (by omega) (by omega)).mono ?_
              rintro e w2 ⟨rfl, hb2⟩
              have b2 := bthen b1 hb2 hTT
              clear hb2 b1 x0 x1
              go_wp2
              go_roundw
              case rel => first | exact ⟨3, by omega, by rfl, b2⟩ | ((repeat apply Exists.intro); exact ⟨⟨3, by omega, by rfl, b2⟩, rfl⟩)
              case measure => simp [intOf]
          · have hkd : decide ((k : Int) < 3) = false := by simp; omega
            obtain ⟨m0, m1, m2⟩ := tmod32 n
            have n0 : 0 ≤ n % 32 := by omega
            have n1 : n % 32 < 32 := by omega
            have hbz := hW.trans (hb.mono hW.size)
            clear hb hW q0 q1 q2 q3 q4 q5 hT hTT
            go_wp2
            have q0 : (wr.alloc (.cells #[.int .i64 1, .int .i64 4, .int .i64 2, .int .i64 5, .int .i64 3, .int .i64 6] 36)).cell? ⟨wr.heap.size, 0, none⟩ = some (.int .i64 1) := by simp
            have q1 : (wr.alloc (.cells #[.int .i64 1, .int .i64 4, .int .i64 2, .int .i64 5, .int .i64 3, .int .i64 6] 36)).cell? ⟨wr.heap.size, 1, none⟩ = some (.int .i64 4) := by simp
            have q2 : (wr.alloc (.cells #[.int .i64 1, .int .i64 4, .int .i64 2, .int .i64 5, .int .i64 3, .int .i64 6] 36)).cell? ⟨wr.heap.size, 2, none⟩ = some (.int .i64 2) := by simp
            have q3 : (wr.alloc (.cells #[.int .i64 1, .int .i64 4, .int .i64 2, .int .i64 5, .int .i64 3, .int .i64 6] 36)).cell? ⟨wr.heap.size, 3, none⟩ = some (.int .i64 5) := by simp
            have q4 : (wr.alloc (.cells #[.int .i64 1, .int .i64 4, .int .i64 2, .int .i64 5, .int .i64 3, .int .i64 6] 36)).cell? ⟨wr.heap.size, 4, none⟩ = some (.int .i64 3) := by simp
            have q5 : (wr.alloc (.cells #[.int .i64 1, .int .i64 4, .int .i64 2, .int .i64 5, .int .i64 3, .int .i64 6] 36)).cell? ⟨wr.heap.size, 5, none⟩ = some (.int .i64 6) := by simp
            have hT : wr.heap.size < (wr.alloc (.cells #[.int .i64 1, .int .i64 4, .int .i64 2, .int .i64 5, .int .i64 3, .int .i64 6] 36)).heap.size := by simp
            have hW : Below w.heap.size w (wr.alloc (.cells #[.int .i64 1, .int .i64 4, .int .i64 2, .int .i64 5, .int .i64 3, .int .i64 6] 36)) := below_then hbz (below_new (w := wr)) (Nat.le_refl _)
            generalize wr.alloc (.cells #[.int .i64 1, .int .i64 4, .int .i64 2, .int .i64 5, .int .i64 3, .int .i64 6] 36) = wU at q0 q1 q2 q3 q4 q5 hT hW ⊢
            generalize wr.heap.size = bU at q0 q1 q2 q3 q4 q5 hT ⊢
            have hTT : wU.heap.size ≤ wU.heap.size := Nat.le_refl _
            have m3 : (n.tmod 32 + 32) % 32 = n % 32 := by omega
            try rw [m3]
            try rw [m2]
            clear hlt hkd hbz m0 m1 m2 m3
            go_loopw [130] (fun i wr => ∃ k : Nat, k ≤ 3 ∧ i = .int .i64 k ∧ Below wU.heap.size wU wr) (fun i _ => 3 - (intOf i).toNat)
            case atStart => exact ⟨0, by omega, rfl, Below.refl _ _⟩
            case round =>
              clear hk
              obtain ⟨k, hk, rfl, hb⟩ := hrel
              by_cases hlt : k < 3
              · have hc : k = 0 ∨ k = 1 ∨ k = 2 := by omega
                rcases hc with hc | hc | hc
                · obtain rfl : k = 0 := by omega
                  have c0 := (hb.cell (p := ⟨bU, 0, none⟩) hT).trans q0
                  have c1 := (hb.cell (p := ⟨bU, 1, none⟩) hT).trans q1
                  have hsz := hb.size
                  go_wp2_with fail
                  clear c0 c1
                  refine (do1 _ _ _ _ _ _ _ _ (by omega) (by omega) s0 s1 (by omega) (by omega)).mono ?_
                  rintro e w1 ⟨rfl, hb1⟩
                  rw [N1.out]
                  have X1 := pr_below (pr_new wr 1 4) hb1 (by simp)
                  have hz1 : wr.heap.size < w1.heap.size := by have := hb1.size; simp at this; omega
                  have b1 := bthen (below_then hb (below_new (w := wr)) hTT) hb1 hTT
                  clear hb1
                  obtain ⟨x0, x1⟩ := X1
                  go_wp2_with fail
                  refine (do4 _ _ _ _ _ _ _ _ (by omega) (by omega) s0 s1 (by omega) (by omega)).mono ?_
                  rintro e w2 ⟨rfl, hb2⟩
                  have b2 := bthen b1 hb2 hTT
                  clear hb2 b1 x0 x1
                  go_wp2
                  go_roundw
                  case rel => first | exact ⟨1, by omega, by rfl, b2⟩ | ((repeat apply Exists.intro); exact ⟨⟨1, by omega, by rfl, b2⟩, rfl⟩)
                  case measure => simp [intOf]
                · obtain rfl : k = 1 := by omega
                  have c0 := (hb.cell (p := ⟨bU, 2, none⟩) hT).trans q2
                  have c1 := (hb.cell (p := ⟨bU, 3, none⟩) hT).trans q3
                  have hsz := hb.size
                  go_wp2_with fail
                  clear c0 c1
                  refine (do2 _ _ _ _ _ _ _ _ (by omega) (by omega) s0 s1 (by omega) (by omega)).mono ?_
                  rintro e w1 ⟨rfl, hb1⟩
                  rw [N2.out]
                  have X1 := pr_below (pr_new wr 2 5) hb1 (by simp)
                  have hz1 : wr.heap.size < w1.heap.size := by have := hb1.size; simp at this; omega
                  have b1 := bthen (below_then hb (below_new (w := wr)) hTT) hb1 hTT
                  clear hb1
                  obtain ⟨x0, x1⟩ := X1
                  go_wp2_with fail
                  refine (do5 _ _ _ _ _ _ _ _ (by omega) (by omega) s0 s1 (by omega) (by omega)).mono ?_
                  rintro e w2 ⟨rfl, hb2⟩
                  have b2 := bthen b1 hb2 hTT
                  clear hb2 b1 x0 x1
                  go_wp2
                  go_roundw
                  case rel => first | exact ⟨2, by omega, by rfl, b2⟩ | ((repeat apply Exists.intro); exact ⟨⟨2, by omega, by rfl, b2⟩, rfl⟩)
                  case measure => simp [intOf]
                · obtain rfl : k = 2 := by omega
                  have c0 := (hb.cell (p := ⟨bU, 4, none⟩) hT).trans q4
                  have c1 := (hb.cell (p := ⟨bU, 5, none⟩) hT).trans q5
                  have hsz := hb.size
                  go_wp2_with fail
                  clear c0 c1
                  refine (do3 _ _ _ _ _ _ _ _ (by omega) (by omega) s0 s1 (by omega) (by omega)).mono ?_
                  rintro e w1 ⟨rfl, hb1⟩
                  rw [N3.out]
                  have X1 := pr_below (pr_new wr 3 6) hb1 (by simp)
                  have hz1 : wr.heap.size < w1.heap.size := by have := hb1.size; simp at this; omega
                  have b1 := bthen (below_then hb (below_new (w := wr)) hTT) hb1 hTT
                  clear hb1
                  obtain ⟨x0, x1⟩ := X1
                  go_wp2_with fail
                  refine (do6 _ _ _ _ _ _ _ _ (by omega) (by omega) s0 s1 (by omega) (by omega)).mono ?_
                  rintro e w2 ⟨rfl, hb2⟩
                  have b2 := bthen b1 hb2 hTT
                  clear hb2 b1 x0 x1
                  go_wp2
                  go_roundw
                  case rel => first | exact ⟨3, by omega, by rfl, b2⟩ | ((repeat apply Exists.intro); exact ⟨⟨3, by omega, by rfl, b2⟩, rfl⟩)
                  case measure => simp [intOf]
              · have hkd : decide ((k : Int) < 3) = false := by simp; omega
                have hbz := hW.trans (hb.mono hW.size)
                go_wp2_with fail
                refine (known_any _).mono ?_
                rintro e w7 ⟨rfl, G7⟩
                go_wp2
                go_ret
                exact ⟨rfl, bthen hbz G7 (Nat.le_refl _)⟩
  · have HG := Lib.hid (sg_lo v v0 (by omega)).symm
    obtain ⟨a1, a2, a3, a4, a5⟩ := im1 s v v HG.out
    rw [← HG.out] at g0 g1
    obtain ⟨tb, T22⟩ : ∃ tb, Hid (trI 22 0 s v = tb) := ⟨_, rfl⟩
    have T46 := Lib.hid (a5.trans T22.out)
    have A47 := Lib.hid a1
    have A46 := Lib.hid a2
    have A48 := Lib.hid a3
    have A49 := Lib.hid a4
    clear a1 a2 a3 a4 a5
    go_enter Try.func6, Try.ntmps6
    go_wp2
    have q0 : (w.alloc (.cells #[.int .i64 47, .int .i64 23, .int .i64 46, .int .i64 22, .int .i64 48, .int .i64 30, .int .i64 49, .int .i64 31] 36)).cell? ⟨w.heap.size, 0, none⟩ = some (.int .i64 47) := by simp
    have q1 : (w.alloc (.cells #[.int .i64 47, .int .i64 23, .int .i64 46, .int .i64 22, .int .i64 48, .int .i64 30, .int .i64 49, .int .i64 31] 36)).cell? ⟨w.heap.size, 1, none⟩ = some (.int .i64 23) := by simp
    have q2 : (w.alloc (.cells #[.int .i64 47, .int .i64 23, .int .i64 46, .int .i64 22, .int .i64 48, .int .i64 30, .int .i64 49, .int .i64 31] 36)).cell? ⟨w.heap.size, 2, none⟩ = some (.int .i64 46) := by simp
    have q3 : (w.alloc (.cells #[.int .i64 47, .int .i64 23, .int .i64 46, .int .i64 22, .int .i64 48, .int .i64 30, .int .i64 49, .int .i64 31] 36)).cell? ⟨w.heap.size, 3, none⟩ = some (.int .i64 22) := by simp
    have q4 : (w.alloc (.cells #[.int .i64 47, .int .i64 23, .int .i64 46, .int .i64 22, .int .i64 48, .int .i64 30, .int .i64 49, .int .i64 31] 36)).cell? ⟨w.heap.size, 4, none⟩ = some (.int .i64 48) := by simp
    have q5 : (w.alloc (.cells #[.int .i64 47, .int .i64 23, .int .i64 46, .int .i64 22, .int .i64 48, .int .i64 30, .int .i64 49, .int .i64 31] 36)).cell? ⟨w.heap.size, 5, none⟩ = some (.int .i64 30) := by simp
    have q6 : (w.alloc (.cells #[.int .i64 47, .int .i64 23, .int .i64 46, .int .i64 22, .int .i64 48, .int .i64 30, .int .i64 49, .int .i64 31] 36)).cell? ⟨w.heap.size, 6, none⟩ = some (.int .i64 49) := by simp
    have q7 : (w.alloc (.cells #[.int .i64 47, .int .i64 23, .int .i64 46, .int .i64 22, .int .i64 48, .int .i64 30, .int .i64 49, .int .i64 31] 36)).cell? ⟨w.heap.size, 7, none⟩ = some (.int .i64 31) := by simp
    have hT : w.heap.size < (w.alloc (.cells #[.int .i64 47, .int .i64 23, .int .i64 46, .int .i64 22, .int .i64 48, .int .i64 30, .int .i64 49, .int .i64 31] 36)).heap.size := by simp
    have hW : Below w.heap.size w (w.alloc (.cells #[.int .i64 47, .int .i64 23, .int .i64 46, .int .i64 22, .int .i64 48, .int .i64 30, .int .i64 49, .int .i64 31] 36)) := below_new
    generalize w.alloc (.cells #[.int .i64 47, .int .i64 23, .int .i64 46, .int .i64 22, .int .i64 48, .int .i64 30, .int .i64 49, .int .i64 31] 36) = wT at q0 q1 q2 q3 q4 q5 q6 q7 hT hW ⊢
    have hTT : wT.heap.size ≤ wT.heap.size := Nat.le_refl _
    go_loopw [41] (fun i wr => ∃ k : Nat, k ≤ 4 ∧ i = .int .i64 k ∧ Below wT.heap.size wT wr) (fun i _ => 4 - (intOf i).toNat)
    case atStart => exact ⟨0, by omega, rfl, Below.refl _ _⟩
    case round =>
      obtain ⟨k, hk, rfl, hb⟩ := hrel
      by_cases hlt : k < 4
      · have hc : k = 0 ∨ k = 1 ∨ k = 2 ∨ k = 3 := by omega
        rcases hc with hc | hc | hc | hc
        · obtain rfl : k = 0 := by omega
          have c0 := (hb.cell (p := ⟨w.heap.size, 0, none⟩) hT).trans q0
          have c1 := (hb.cell (p := ⟨w.heap.size, 1, none⟩) hT).trans q1
          have hsz := hb.size
          go_wp2_with fail
          clear c0 c1
          refine (do47 _ _ _ _ _ _ _ _ s0 s1 (by omega) (by omega) v0 v2).mono ?_
          rintro e w1 ⟨rfl, hb1⟩
          rw [A47.out]
          have X1 := pr_below (pr_new wr 47 23) hb1 (by simp)
          have hz1 : wr.heap.size < w1.heap.size := by have := hb1.size; simp at this; omega
          have b1 := bthen (below_then hb (below_new (w := wr)) hTT) hb1 hTT
          clear hb1
          obtain ⟨x0, x1⟩ := X1
          go_wp2_with fail
          refine (do23 _ _ _ _ _ _ _ _ s0 s1 g0 g1 (by omega) (by omega)).mono ?_
          rintro e w2 ⟨rfl, hb2⟩
          have X2 := pr_below ⟨x0, x1⟩ hb2 hz1
          have hz2 : wr.heap.size < w2.heap.size := Nat.lt_of_lt_of_le hz1 hb2.size
          have b2 := bthen b1 hb2 hTT
          clear hb2 b1 x0 x1 hz1
          generalize nv 23 0 0 s v = r
          go_wp2_with fail
          have X2d : Pr (w2.drewN 1) wr.heap.size 47 23 := X2
          have hz2d : wr.heap.size < (w2.drewN 1).heap.size := hz2
          have b2d := below_drewN b2 1
          clear X2 hz2 b2
          go_region_held3 (fun w' => w'.cell? ⟨wr.heap.size, 0, none⟩ = some (.int .i64 47) ∧ w'.cell? ⟨wr.heap.size, 1, none⟩ = some (.int .i64 23))
            (first | exact X2d | exact X3 | exact X4)
            (first
            | (go_at_call 13; (with_reducible refine (tr_any 47 0 0 0 0 v s 9 _ s0 s1 (by omega) (by omega) v0 v2).mono ?_); rintro e w3 ⟨rfl, g3⟩; rw [T47.out]; have X3 := pr_below X2d g3 hz2d; have hz3 := Nat.lt_of_lt_of_le hz2d g3.size; have b3 := bthen b2d g3 hTT)
            | (go_at_call 13; (with_reducible refine (tr_any 23 0 0 0 0 0 s v w3 s0 s1 g0 g1 (by omega) (by omega)).mono ?_); rintro e w4 ⟨rfl, g4⟩; rw [T23.out]; have X4 := pr_below X3 g4 hz3; have b4 := bthen b3 g4 hTT))
          all_goals
            go_wp2
            go_roundw
            case rel => exact ⟨1, by omega, by rfl, b4⟩
            case measure => simp [intOf]
        · obtain rfl : k = 1 := by omega
          have c0 := (hb.cell (p := ⟨w.heap.size, 2, none⟩) hT).trans q2
          have c1 := (hb.cell (p := ⟨w.heap.size, 3, none⟩) hT).trans q3
          have hsz := hb.size
          go_wp2_with fail
          clear c0 c1
          refine (do46 _ _ _ _ _ _ _ _ s0 s1 (by omega) (by omega) v0 v2).mono ?_
          rintro e w1 ⟨rfl, hb1⟩
          rw [A46.out]
          have X1 := pr_below (pr_new wr 46 22) hb1 (by simp)
          have hz1 : wr.heap.size < w1.heap.size := by have := hb1.size; simp at this; omega
          have b1 := bthen (below_then hb (below_new (w := wr)) hTT) hb1 hTT
          clear hb1
          obtain ⟨x0, x1⟩ := X1
          go_wp2_with fail
          refine (do22 _ _ _ _ _ _ _ _ s0 s1 g0 g1 (by omega) (by omega)).mono ?_
          rintro e w2 ⟨rfl, hb2⟩
          have X2 := pr_below ⟨x0, x1⟩ hb2 hz1
          have hz2 : wr.heap.size < w2.heap.size := Nat.lt_of_lt_of_le hz1 hb2.size
          have b2 := bthen b1 hb2 hTT
          clear hb2 b1 x0 x1 hz1
          generalize nv 22 0 0 s v = r
          go_wp2_with fail
          have X2d : Pr (w2.drewN 1) wr.heap.size 46 22 := X2
          have hz2d : wr.heap.size < (w2.drewN 1).heap.size := hz2
          have b2d := below_drewN b2 1
          clear X2 hz2 b2
          go_region_held3 (fun w' => w'.cell? ⟨wr.heap.size, 0, none⟩ = some (.int .i64 46) ∧ w'.cell? ⟨wr.heap.size, 1, none⟩ = some (.int .i64 22))
            (first | exact X2d | exact X3 | exact X4)
            (first
            | (go_at_call 13; (with_reducible refine (tr_any 46 0 0 0 0 v s 9 _ s0 s1 (by omega) (by omega) v0 v2).mono ?_); rintro e w3 ⟨rfl, g3⟩; rw [T46.out]; have X3 := pr_below X2d g3 hz2d; have hz3 := Nat.lt_of_lt_of_le hz2d g3.size; have b3 := bthen b2d g3 hTT)
            | (go_at_call 13; (with_reducible refine (tr_any 22 0 0 0 0 0 s v w3 s0 s1 g0 g1 (by omega) (by omega)).mono ?_); rintro e w4 ⟨rfl, g4⟩; rw [T22.out]; have X4 := pr_below X3 g4 hz3; have b4 := bthen b3 g4 hTT))
          all_goals
            go_wp2
            go_roundw
            case rel => exact ⟨2, by omega, by rfl, b4⟩
            case measure => simp [intOf]
        · obtain rfl : k = 2 := by omega
          have c0 := (hb.cell (p := ⟨w.heap.size, 4, none⟩) hT).trans q4
          have c1 := (hb.cell (p := ⟨w.heap.size, 5, none⟩) hT).trans q5
          have hsz := hb.size
          go_wp2_with fail
          clear c0 c1
          refine (do48 _ _ _ _ _ _ _ _ s0 s1 (by omega) (by omega) v0 v2).mono ?_
          rintro e w1 ⟨rfl, hb1⟩
          rw [A48.out]
          have X1 := pr_below (pr_new wr 48 30) hb1 (by simp)
          have hz1 : wr.heap.size < w1.heap.size := by have := hb1.size; simp at this; omega
          have b1 := bthen (below_then hb (below_new (w := wr)) hTT) hb1 hTT
          clear hb1
          obtain ⟨x0, x1⟩ := X1
          go_wp2_with fail
          refine (do30 _ _ _ _ _ _ _ _ s0 s1 g0 g1 (by omega) (by omega)).mono ?_
          rintro e w2 ⟨rfl, hb2⟩
          have X2 := pr_below ⟨x0, x1⟩ hb2 hz1
          have hz2 : wr.heap.size < w2.heap.size := Nat.lt_of_lt_of_le hz1 hb2.size
          have b2 := bthen b1 hb2 hTT
          clear hb2 b1 x0 x1 hz1
          generalize nv 30 0 0 s v = r
          go_wp2_with fail
          have X2d : Pr (w2.drewN 1) wr.heap.size 48 30 := X2
          have hz2d : wr.heap.size < (w2.drewN 1).heap.size := hz2
          have b2d := below_drewN b2 1
          clear X2 hz2 b2
          go_region_held3 (fun w' => w'.cell? ⟨wr.heap.size, 0, none⟩ = some (.int .i64 48) ∧ w'.cell? ⟨wr.heap.size, 1, none⟩ = some (.int .i64 30))
            (first | exact X2d | exact X3 | exact X4)
            (first
            | (go_at_call 13; (with_reducible refine (tr_any 48 0 0 0 0 v s 9 _ s0 s1 (by omega) (by omega) v0 v2).mono ?_); rintro e w3 ⟨rfl, g3⟩; rw [T48.out]; have X3 := pr_below X2d g3 hz2d; have hz3 := Nat.lt_of_lt_of_le hz2d g3.size; have b3 := bthen b2d g3 hTT)
            | (go_at_call 13; (with_reducible refine (tr_any 30 0 0 0 0 0 s v w3 s0 s1 g0 g1 (by omega) (by omega)).mono ?_); rintro e w4 ⟨rfl, g4⟩; rw [T30.out]; have X4 := pr_below X3 g4 hz3; have b4 := bthen b3 g4 hTT))
          all_goals
            go_wp2
            go_roundw
            case rel => exact ⟨3, by omega, by rfl, b4⟩
            case measure => simp [intOf]
        · obtain rfl : k = 3 := by omega
          have c0 := (hb.cell (p := ⟨w.heap.size, 6, none⟩) hT).trans q6
          have c1 := (hb.cell (p := ⟨w.heap.size, 7, none⟩) hT).trans q7
          have hsz := hb.size
          go_wp2_with fail
          clear c0 c1
          refine (do49 _ _ _ _ _ _ _ _ s0 s1 (by omega) (by omega) v0 v2).mono ?_
          rintro e w1 ⟨rfl, hb1⟩
          rw [A49.out]
          have X1 := pr_below (pr_new wr 49 31) hb1 (by simp)
          have hz1 : wr.heap.size < w1.heap.size := by have := hb1.size; simp at this; omega
          have b1 := bthen (below_then hb (below_new (w := wr)) hTT) hb1 hTT
          clear hb1
          obtain ⟨x0, x1⟩ := X1
          go_wp2_with fail
          refine (do31 _ _ _ _ _ _ _ _ s0 s1 g0 g1 (by omega) (by omega)).mono ?_
          rintro e w2 ⟨rfl, hb2⟩
          have X2 := pr_below ⟨x0, x1⟩ hb2 hz1
          have hz2 : wr.heap.size < w2.heap.size := Nat.lt_of_lt_of_le hz1 hb2.size
          have b2 := bthen b1 hb2 hTT
          clear hb2 b1 x0 x1 hz1
          generalize nv 31 0 0 s v = r
          go_wp2_with fail
          have X2d : Pr (w2.drewN 1) wr.heap.size 49 31 := X2
          have hz2d : wr.heap.size < (w2.drewN 1).heap.size := hz2
          have b2d := below_drewN b2 1
          clear X2 hz2 b2
          go_region_held3 (fun w' => w'.cell? ⟨wr.heap.size, 0, none⟩ = some (.int .i64 49) ∧ w'.cell? ⟨wr.heap.size, 1, none⟩ = some (.int .i64 31))
            (first | exact X2d | exact X3 | exact X4)
            (first
            | (go_at_call 13; (with_reducible refine (tr_any 49 0 0 0 0 v s 9 _ s0 s1 (by omega) (by omega) v0 v2).mono ?_); rintro e w3 ⟨rfl, g3⟩; rw [T49.out]; have X3 := pr_below X2d g3 hz2d; have hz3 := Nat.lt_of_lt_of_le hz2d g3.size; have b3 := bthen b2d g3 hTT)
            | (go_at_call 13; (with_reducible refine (tr_any 31 0 0 0 0 0 s v w3 s0 s1 g0 g1 (by omega) (by omega)).mono ?_); rintro e w4 ⟨rfl, g4⟩; rw [T31.out]; have X4 := pr_below X3 g4 hz3; have b4 := bthen b3 g4 hTT))
          all_goals
            go_wp2
            go_roundw
            case rel => exact ⟨4, by omega, by rfl, b4⟩
            case measure => simp [intOf]
      · have hkd : decide ((k : Int) < 4) = false := by simp; omega
        have hbz := hW.trans (hb.mono hW.size)
        clear hb hW q0 q1 q2 q3 q4 q5 q6 q7 hT hTT
        go_wp2
        have q0 : (wr.alloc (.cells #[.int .i64 50, .int .i64 26, .int .i64 51, .int .i64 27, .int .i64 52, .int .i64 28] 36)).cell? ⟨wr.heap.size, 0, none⟩ = some (.int .i64 50) := by simp
        have q1 : (wr.alloc (.cells #[.int .i64 50, .int .i64 26, .int .i64 51, .int .i64 27, .int .i64 52, .int .i64 28] 36)).cell? ⟨wr.heap.size, 1, none⟩ = some (.int .i64 26) := by simp
        have q2 : (wr.alloc (.cells #[.int .i64 50, .int .i64 26, .int .i64 51, .int .i64 27, .int .i64 52, .int .i64 28] 36)).cell? ⟨wr.heap.size, 2, none⟩ = some (.int .i64 51) := by simp
        have q3 : (wr.alloc (.cells #[.int .i64 50, .int .i64 26, .int .i64 51, .int .i64 27, .int .i64 52, .int .i64 28] 36)).cell? ⟨wr.heap.size, 3, none⟩ = some (.int .i64 27) := by simp
        have q4 : (wr.alloc (.cells #[.int .i64 50, .int .i64 26, .int .i64 51, .int .i64 27, .int .i64 52, .int .i64 28] 36)).cell? ⟨wr.heap.size, 4, none⟩ = some (.int .i64 52) := by simp
        have q5 : (wr.alloc (.cells #[.int .i64 50, .int .i64 26, .int .i64 51, .int .i64 27, .int .i64 52, .int .i64 28] 36)).cell? ⟨wr.heap.size, 5, none⟩ = some (.int .i64 28) := by simp
        have hT : wr.heap.size < (wr.alloc (.cells #[.int .i64 50, .int .i64 26, .int .i64 51, .int .i64 27, .int .i64 52, .int .i64 28] 36)).heap.size := by simp
        have hW : Below w.heap.size w (wr.alloc (.cells #[.int .i64 50, .int .i64 26, .int .i64 51, .int .i64 27, .int .i64 52, .int .i64 28] 36)) := below_then hbz (below_new (w := wr)) (Nat.le_refl _)
        generalize wr.alloc (.cells #[.int .i64 50, .int .i64 26, .int .i64 51, .int .i64 27, .int .i64 52, .int .i64 28] 36) = wU at q0 q1 q2 q3 q4 q5 hT hW ⊢
        generalize wr.heap.size = bU at q0 q1 q2 q3 q4 q5 hT ⊢
        have hTT : wU.heap.size ≤ wU.heap.size := Nat.le_refl _
        clear hlt hkd hbz
        go_loopw [95] (fun i wr => ∃ k : Nat, k ≤ 3 ∧ i = .int .i64 k ∧ Below wU.heap.size wU wr) (fun i _ => 3 - (intOf i).toNat)
        case atStart => exact ⟨0, by omega, rfl, Below.refl _ _⟩
        case round =>
          clear hk
          obtain ⟨k, hk, rfl, hb⟩ := hrel
          by_cases hlt : k < 3
          · have hc : k = 0 ∨ k = 1 ∨ k = 2 := by omega
            rcases hc with hc | hc | hc
            · obtain rfl : k = 0 := by omega
              have c0 := (hb.cell (p := ⟨bU, 0, none⟩) hT).trans q0
              have c1 := (hb.cell (p := ⟨bU, 1, none⟩) hT).trans q1
              have hsz := hb.size
              go_wp2_with fail
              clear c0 c1
              refine (do50 _ _ _ _ _ _ _ _ s0 s1 (by omega) (by omega) v0 v2).mono ?_
              rintro e w1 ⟨rfl, hb1⟩
              rw [A50.out]
              have X1 := pr_below (pr_new wr 50 26) hb1 (by simp)
              have hz1 : wr.heap.size < w1.heap.size := by have := hb1.size; simp at this; omega
              have b1 := bthen (below_then hb (below_new (w := wr)) hTT) hb1 hTT
              clear hb1
              obtain ⟨x0, x1⟩ := X1
              go_wp2_with fail
              refine (do26 _ _ _ _ _ _ _ _ s0 s1 v0 v2 (by omega) (by omega)).mono ?_
              rintro e w2 ⟨rfl, hb2⟩
              have b2 := bthen b1 hb2 hTT
              clear hb2 b1 x0 x1
              go_wp2
              go_roundw
              case rel => first | exact ⟨1, by omega, by rfl, b2⟩ | ((repeat apply Exists.intro); exact ⟨⟨1, by omega, by rfl, b2⟩, rfl⟩)
              case measure => simp [intOf]
            · obtain rfl : k = 1 := by omega
              have c0 := (hb.cell (p := ⟨bU, 2, none⟩) hT).trans q2
              have c1 := (hb.cell (p := ⟨bU, 3, none⟩) hT).trans q3
              have hsz := hb.size
              go_wp2_with fail
              clear c0 c1
              refine (do51 _ _ _ _ _ _ _ _ s0 s1 (by omega) (by omega) v0 v2).mono ?_
              rintro e w1 ⟨rfl, hb1⟩
              rw [A51.out]
              have X1 := pr_below (pr_new wr 51 27) hb1 (by simp)
              have hz1 : wr.heap.size < w1.heap.size := by have := hb1.size; simp at this; omega
              have b1 := bthen (below_then hb (below_new (w := wr)) hTT) hb1 hTT
              clear hb1
              obtain ⟨x0, x1⟩ := X1
              go_wp2_with fail
              refine (do27 _ _ _ _ _ _ _ _ s0 s1 v0 v2 (by omega) (by omega)).mono ?_
              rintro e w2 ⟨rfl, hb2⟩
              have b2 := bthen b1 hb2 hTT
              clear hb2 b1 x0 x1
              go_wp2
              go_roundw
              case rel => first | exact ⟨2, by omega, by rfl, b2⟩ | ((repeat apply Exists.intro); exact ⟨⟨2, by omega, by rfl, b2⟩, rfl⟩)
              case measure => simp [intOf]
            · obtain rfl : k = 2 := by omega
              have c0 := (hb.cell (p := ⟨bU, 4, none⟩) hT).trans q4
              have c1 := (hb.cell (p := ⟨bU, 5, none⟩) hT).trans q5
              have hsz := hb.size
              go_wp2_with fail
              clear c0 c1
              refine (do52 _ _ _ _ _ _ _ _ s0 s1 (by omega) (by omega) v0 v2).mono ?_
              rintro e w1 ⟨rfl, hb1⟩
              rw [A52.out]
              have X1 := pr_below (pr_new wr 52 28) hb1 (by simp)
              have hz1 : wr.heap.size < w1.heap.size := by have := hb1.size; simp at this; omega
              have b1 := bthen (below_then hb (below_new (w := wr)) hTT) hb1 hTT
              clear hb1
              obtain ⟨x0, x1⟩ := X1
              go_wp2_with fail
              refine (do28 _ _ _ _ _ _ _ _ s0 s1 v0 v2 (by omega) (by omega)).mono ?_
              rintro e w2 ⟨rfl, hb2⟩
              have b2 := bthen b1 hb2 hTT
              clear hb2 b1 x0 x1
              go_wp2
              go_roundw
              case rel => first | exact ⟨3, by omega, by rfl, b2⟩ | ((repeat apply Exists.intro); exact ⟨⟨3, by omega, by rfl, b2⟩, rfl⟩)
              case measure => simp [intOf]
          · have hkd : decide ((k : Int) < 3) = false := by simp; omega
            obtain ⟨m0, m1, m2⟩ := tmod32 n
            have n0 : 0 ≤ n % 32 := by omega
            have n1 : n % 32 < 32 := by omega
            have hbz := hW.trans (hb.mono hW.size)
            clear hb hW q0 q1 q2 q3 q4 q5 hT hTT
            go_wp2
            have q0 : (wr.alloc (.cells #[.int .i64 1, .int .i64 4, .int .i64 2, .int .i64 5, .int .i64 3, .int .i64 6] 36)).cell? ⟨wr.heap.size, 0, none⟩ = some (.int .i64 1) := by simp
            have q1 : (wr.alloc (.cells #[.int .i64 1, .int .i64 4, .int .i64 2, .int .i64 5, .int .i64 3, .int .i64 6] 36)).cell? ⟨wr.heap.size, 1, none⟩ = some (.int .i64 4) := by simp
            have q2 : (wr.alloc (.cells #[.int .i64 1, .int .i64 4, .int .i64 2, .int .i64 5, .int .i64 3, .int .i64 6] 36)).cell? ⟨wr.heap.size, 2, none⟩ = some (.int .i64 2) := by simp
            have q3 : (wr.alloc (.cells #[.int .i64 1, .int .i64 4, .int .i64 2, .int .i64 5, .int .i64 3, .int .i64 6] 36)).cell? ⟨wr.heap.size, 3, none⟩ = some (.int .i64 5) := by simp
            have q4 : (wr.alloc (.cells #[.int .i64 1, .int .i64 4, .int .i64 2, .int .i64 5, .int .i64 3, .int .i64 6] 36)).cell? ⟨wr.heap.size, 4, none⟩ = some (.int .i64 3) := by simp
            have q5 : (wr.alloc (.cells #[.int .i64 1, .int .i64 4, .int .i64 2, .int .i64 5, .int .i64 3, .int .i64 6] 36)).cell? ⟨wr.heap.size, 5, none⟩ = some (.int .i64 6) := by simp
            have hT : wr.heap.size < (wr.alloc (.cells #[.int .i64 1, .int .i64 4, .int .i64 2, .int .i64 5, .int .i64 3, .int .i64 6] 36)).heap.size := by simp
            have hW : Below w.heap.size w (wr.alloc (.cells #[.int .i64 1, .int .i64 4, .int .i64 2, .int .i64 5, .int .i64 3, .int .i64 6] 36)) := below_then hbz (below_new (w := wr)) (Nat.le_refl _)
            generalize wr.alloc (.cells #[.int .i64 1, .int .i64 4, .int .i64 2, .int .i64 5, .int .i64 3, .int .i64 6] 36) = wU at q0 q1 q2 q3 q4 q5 hT hW ⊢
            generalize wr.heap.size = bU at q0 q1 q2 q3 q4 q5 hT ⊢
            have hTT : wU.heap.size ≤ wU.heap.size := Nat.le_refl _
            have m3 : (n.tmod 32 + 32) % 32 = n % 32 := by omega
            try rw [m3]
            try rw [m2]
            clear hlt hkd hbz m0 m1 m2 m3
            go_loopw [130] (fun i wr => ∃ k : Nat, k ≤ 3 ∧ i = .int .i64 k ∧ Below wU.heap.size wU wr) (fun i _ => 3 - (intOf i).toNat)
            case atStart => exact ⟨0, by omega, rfl, Below.refl _ _⟩
            case round =>
              clear hk
              obtain ⟨k, hk, rfl, hb⟩ := hrel
              by_cases hlt : k < 3
              · have hc : k = 0 ∨ k = 1 ∨ k = 2 := by omega
                rcases hc with hc | hc | hc
                · obtain rfl : k = 0 := by omega
                  have c0 := (hb.cell (p := ⟨bU, 0, none⟩) hT).trans q0
                  have c1 := (hb.cell (p := ⟨bU, 1, none⟩) hT).trans q1
                  have hsz := hb.size
                  go_wp2_with fail
                  clear c0 c1
                  refine (do1 _ _ _ _ _ _ _ _ (by omega) (by omega) s0 s1 (by omega) (by omega)).mono ?_
                  rintro e w1 ⟨rfl, hb1⟩
                  rw [N1.out]
                  have X1 := pr_below (pr_new wr 1 4) hb1 (by simp)
                  have hz1 : wr.heap.size < w1.heap.size := by have := hb1.size; simp at this; omega
                  have b1 := bthen (below_then hb (below_new (w := wr)) hTT) hb1 hTT
                  clear hb1
                  obtain ⟨x0, x1⟩ := X1
                  go_wp2_with fail
                  refine (do4 _ _ _ _ _ _ _ _ (by omega) (by omega) s0 s1 (by omega) (by omega)).mono ?_
                  rintro e w2 ⟨rfl, hb2⟩
                  have b2 := bthen b1 hb2 hTT
                  clear hb2 b1 x0 x1
                  go_wp2
                  go_roundw
                  case rel => first | exact ⟨1, by omega, by rfl, b2⟩ | ((repeat apply Exists.intro); exact ⟨⟨1, by omega, by rfl, b2⟩, rfl⟩)
                  case measure => simp [intOf]
                · obtain rfl : k = 1 := by omega
                  have c0 := (hb.cell (p := ⟨bU, 2, none⟩) hT).trans q2
                  have c1 := (hb.cell (p := ⟨bU, 3, none⟩) hT).trans q3
                  have hsz := hb.size
                  go_wp2_with fail
                  clear c0 c1
                  refine (do2 _ _ _ _ _ _ _ _ (by omega) (by omega) s0 s1 (by omega) (by omega)).mono ?_
                  rintro e w1 ⟨rfl, hb1⟩
                  rw [N2.out]
                  have X1 := pr_below (pr_new wr 2 5) hb1 (by simp)
                  have hz1 : wr.heap.size < w1.heap.size := by have := hb1.size; simp at this; omega
                  have b1 := bthen (below_then hb (below_new (w := wr)) hTT) hb1 hTT
                  clear hb1
                  obtain ⟨x0, x1⟩ := X1
                  go_wp2_with fail
                  refine (do5 _ _ _ _ _ _ _ _ (by omega) (by omega) s0 s1 (by omega) (by omega)).mono ?_
                  rintro e w2 ⟨rfl, hb2⟩
                  have b2 := bthen b1 hb2 hTT
                  clear hb2 b1 x0 x1
                  go_wp2
                  go_roundw
                  case rel => first | exact ⟨2, by omega, by rfl, b2⟩ | ((repeat apply Exists.intro); exact ⟨⟨2, by omega, by rfl, b2⟩, rfl⟩)
                  case measure => simp [intOf]
                · obtain rfl : k = 2 := by omega
                  have c0 := (hb.cell (p := ⟨bU, 4, none⟩) hT).trans q4
                  have c1 := (hb.cell (p := ⟨bU, 5, none⟩) hT).trans q5
                  have hsz := hb.size
                  go_wp2_with fail
                  clear c0 c1
                  refine (do3 _ _ _ _ _ _ _ _ (by omega) (by omega) s0 s1 (by omega) (by omega)).mono ?_
                  rintro e w1 ⟨rfl, hb1⟩
                  rw [N3.out]
                  have X1 := pr_below (pr_new wr 3 6) hb1 (by simp)
                  have hz1 : wr.heap.size < w1.heap.size := by have := hb1.size; simp at this; omega
                  have b1 := bthen (below_then hb (below_new (w := wr)) hTT) hb1 hTT
                  clear hb1
                  obtain ⟨x0, x1⟩ := X1
                  go_wp2_with fail
                  refine (do6 _ _ _ _ _ _ _ _ (by omega) (by omega) s0 s1 (by omega) (by omega)).mono ?_
                  rintro e w2 ⟨rfl, hb2⟩
                  have b2 := bthen b1 hb2 hTT
                  clear hb2 b1 x0 x1
                  go_wp2
                  go_roundw
                  case rel => first | exact ⟨3, by omega, by rfl, b2⟩ | ((repeat apply Exists.intro); exact ⟨⟨3, by omega, by rfl, b2⟩, rfl⟩)
                  case measure => simp [intOf]
              · have hkd : decide ((k : Int) < 3) = false := by simp; omega
                have hbz := hW.trans (hb.mono hW.size)
                go_wp2_with fail
                refine (known_any _).mono ?_
                rintro e w7 ⟨rfl, G7⟩
                go_wp2
                go_ret
                exact ⟨rfl, bthen hbz G7 (Nat.le_refl _)⟩
end Go.Proofs.Ytfdgmenlefojbaa
