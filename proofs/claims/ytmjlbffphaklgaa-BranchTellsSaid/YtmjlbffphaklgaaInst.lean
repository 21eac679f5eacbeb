/-
  Chapter 3: instructions as they are drawn: function Inst: one that is right, of a Kind.
-/
import Derived.Test.YtmjlbffphaklgaaKeep
import Derived.Deep.OwnRows
import Derived.Deep.DeepCutAuto
import Derived.Deep.CutBlock
namespace Go.Proofs.Ytmjlbffphaklgaa
open Go.RowKit
set_option linter.unusedVariables false

/-- the cells of an instruction -/
def insF (k s t d h i : Int) : Nat → Value
  | 0 => .int .i64 k
  | 1 => .int .i64 s
  | 2 => .int .i64 t
  | 3 => .int .i64 d
  | 4 => .int .i64 h
  | _ => .int .u32 i
theorem ins_row (w : World) (k s t d h i : Int) : (w.alloc (.cells #[.int .i64 k, .int .i64 s, .int .i64 t, .int .i64 d, .int .i64 h, .int .u32 i] 26)).rowIs w.heap.size 26 6 (insF k s t d h i) :=
  World.rowIs_alloc w _ _ _ fun j hj => by
    have : j = 0 ∨ j = 1 ∨ j = 2 ∨ j = 3 ∨ j = 4 ∨ j = 5 := by have : j < 6 := hj; omega
    rcases this with rfl | rfl | rfl | rfl | rfl | rfl <;> rfl
theorem row_below {w w' : World} {b n B : Nat} {T : TypeId} {F : Nat → Value} (h : w.rowIs b T n F) (hb : Below B w w') (hB : b < B) : w'.rowIs b T n F := h.of_block (hb.block b hB)
theorem row_cells {w : World} {b : Nat} {k s t d h i : Int} (x : w.rowIs b 26 6 (insF k s t d h i)) : Ins w b k s t d h i :=
  ⟨x.cell (i := 0) (by omega), x.cell (i := 1) (by omega), x.cell (i := 2) (by omega), x.cell (i := 3) (by omega), x.cell (i := 4) (by omega), x.cell (i := 5) (by omega)⟩
theorem row_set6 {w : World} {b : Nat} {F : Nat → Value} (x : w.rowIs b 26 6 F) (k s t d h i : Int) :
    ((((((w.setCell ⟨b, 0, none⟩ (.int .i64 k)).setCell ⟨b, 1, none⟩ (.int .i64 s)).setCell ⟨b, 2, none⟩ (.int .i64 t)).setCell ⟨b, 3, none⟩ (.int .i64 d)).setCell ⟨b, 4, none⟩ (.int .i64 h)).setCell ⟨b, 5, none⟩ (.int .u32 i)).rowIs b 26 6 (insF k s t d h i) :=
  ((((((x.set 0 _).set 1 _).set 2 _).set 3 _).set 4 _).set 5 _).congr fun j hj => by
    have : j = 0 ∨ j = 1 ∨ j = 2 ∨ j = 3 ∨ j = 4 ∨ j = 5 := by omega
    rcases this with rfl | rfl | rfl | rfl | rfl | rfl <;> rfl
theorem row_off6 {w : World} {b c : Nat} {F : Nat → Value} {n : Nat} {T : TypeId} (x : w.rowIs c T n F) (hc : c ≠ b) (k s t d h i : Int) :
    ((((((w.setCell ⟨b, 0, none⟩ (.int .i64 k)).setCell ⟨b, 1, none⟩ (.int .i64 s)).setCell ⟨b, 2, none⟩ (.int .i64 t)).setCell ⟨b, 3, none⟩ (.int .i64 d)).setCell ⟨b, 4, none⟩ (.int .i64 h)).setCell ⟨b, 5, none⟩ (.int .u32 i)).rowIs c T n F :=
  (((((x.setOther hc _).setOther hc _).setOther hc _).setOther hc _).setOther hc _).setOther hc _

section
variable {k : Nat} (h1 : 1 ≤ k) (h2 : k ≤ 77)
include h1 h2
theorem rgS (b : Bool) (h : D.rg k 1 0 0 0 0 = b) : D.mS k = if b = true then 31 else 0 := by
  have := D.ms k (by omega)
  cases b <;> simp only [D.rg, decide_eq_true_eq, decide_eq_false_iff_not, Int.toNat_natCast] at h <;> simp <;> omega
theorem rgT (b : Bool) (h : D.rg k 0 1 0 0 0 = b) : D.mT k = if b = true then 31 else 0 := by
  have := D.mt k (by omega)
  cases b <;> simp only [D.rg, decide_eq_true_eq, decide_eq_false_iff_not, Int.toNat_natCast] at h <;> simp <;> omega
theorem rgD (b : Bool) (h : D.rg k 0 0 1 0 0 = b) : D.mD k = if b = true then 31 else 0 := by
  have := D.md k (by omega)
  cases b <;> simp only [D.rg, decide_eq_true_eq, decide_eq_false_iff_not, Int.toNat_natCast] at h <;> simp <;> omega
theorem rgH (b : Bool) (h : D.rg k 0 0 0 1 0 = b) : D.mH k = if b = true then 31 else 0 := by
  have := D.mh k (by omega)
  cases b <;> simp only [D.rg, decide_eq_true_eq, decide_eq_false_iff_not, Int.toNat_natCast] at h <;> simp <;> omega
theorem rgI (i : Nat) : (D.rg k 0 0 0 0 i = true → i ≤ D.mI k) ∧ (D.rg k 0 0 0 0 i = false → D.mI k < i) := by
  constructor
  · intro h
    simp only [D.rg, decide_eq_true_eq, Int.toNat_natCast] at h
    omega
  · intro h
    simp only [D.rg, decide_eq_false_iff_not, Int.toNat_natCast] at h
    omega
end
/-- behind f rounds so many fields are right -/
structure Cn (f k s t d h i : Nat) : Prop where
  s0 : s ≤ 31
  t0 : t ≤ 31
  d0 : d ≤ 31
  h0 : h ≤ 31
  i0 : i ≤ 67108863
  fs : 1 ≤ f → s ≤ D.mS k
  ft : 2 ≤ f → t ≤ D.mT k
  fd : 3 ≤ f → d ≤ D.mD k
  fh : 4 ≤ f → h ≤ D.mH k
  fi : 5 ≤ f → i ≤ D.mI k ∨ D.mI k = 0
  fj : 6 ≤ f → i ≤ D.mI k
/-- an instruction that is right, of Kind k -/
def InstP (w : World) (k : Nat) (e : Ending) (w' : World) : Prop :=
  ∃ s t d h i : Nat, e = .returned (.agg #[.int .i64 ((k : Int)), .int .i64 ((s : Int)), .int .i64 ((t : Int)), .int .i64 ((d : Int)), .int .i64 ((h : Int)), .int .u32 ((i : Int))]) ∧ s ≤ D.mS k ∧ t ≤ D.mT k ∧ d ≤ D.mD k ∧ h ≤ D.mH k ∧ i ≤ D.mI k ∧ Below w.heap.size w w'
/-- the numbers of an instruction as it is drawn -/
structure InX (K S T E G I R : Int) : Prop where
  k : In64 K
  s : In64 S
  t : In64 T
  d : In64 E
  h : In64 G
  i0 : 0 ≤ I
  i1 : I < 4294967296
  r0 : 0 ≤ R
  r1 : R < 4294967296

set_option maxRecDepth 100000 in
set_option maxHeartbeats 8000000 in
theorem inst_any (K S T E G I R : Int) (k : Nat) (w : World) (hx : Hid (InX K S T E G I R)) (h1 : 1 ≤ k) (h2 : k ≤ 77) : Calls Try.prog 17 #[.agg #[.int .i64 K, .int .i64 S, .int .i64 T, .int .i64 E, .int .i64 G, .int .u32 I, .int .u32 R], .int .i64 (k : Int)] w (InstP w k) := by
  have NS := fun w => near_eq S w hx.out.s.1 hx.out.s.2
  have NT := fun w => near_eq T w hx.out.t.1 hx.out.t.2
  have NE := fun w => near_eq E w hx.out.d.1 hx.out.d.2
  have NG := fun w => within_eq G 31 w (by omega) (by omega) hx.out.h.1 hx.out.h.2
  obtain ⟨s, hs⟩ := Int.eq_ofNat_of_zero_le (neF_rng S).1
  obtain ⟨t, ht⟩ := Int.eq_ofNat_of_zero_le (neF_rng T).1
  obtain ⟨d, hd⟩ := Int.eq_ofNat_of_zero_le (neF_rng E).1
  obtain ⟨h, hh⟩ := Int.eq_ofNat_of_zero_le (wiF_rng G 31 (by omega)).1
  have ls : s ≤ 31 := by have := (neF_rng S).2; omega
  have lt : t ≤ 31 := by have := (neF_rng T).2; omega
  have ld : d ≤ 31 := by have := (neF_rng E).2; omega
  have lh : h ≤ 31 := by have := (wiF_rng G 31 (by omega)).2; omega
  rw [hs] at NS
  rw [ht] at NT
  rw [hd] at NE
  rw [hh] at NG
  clear hs ht hd hh
  have HA : bits .and .u32 I 67108863 = ((I.toNat % 67108864 : Nat) : Int) := by
    have := sub_and I.toNat (by have := hx.out.i1; omega) 67108863 26 rfl (by omega)
    rw [show ((I.toNat : Nat) : Int) = I by have := hx.out.i0; omega] at this
    exact this
  have li : I.toNat % 67108864 ≤ 67108863 := by omega
  generalize I.toNat % 67108864 = i at HA li
  have HNS := Lib.hid NS; have HNT := Lib.hid NT; have HNE := Lib.hid NE; have HNG := Lib.hid NG
  clear NS NT NE NG
  go_enter Try.func17, Try.ntmps17
  go_upto_region 1 with fail
  go_cut [5] (fun p wc => p = .pointer (some ⟨w.heap.size + 2, 0, none⟩) ∧ wc.rowIs (w.heap.size + 2) 26 6 (insF k s t d h i) ∧ wc.rowIs (w.heap.size + 1) 26 6 (insF 0 0 0 0 0 0) ∧ Below w.heap.size w wc)
  case first =>
    have X1 : ((w.alloc (.cells #[.int .i64 K, .int .i64 S, .int .i64 T, .int .i64 E, .int .i64 G, .int .u32 I, .int .u32 R] 29)).alloc (.cells #[.int .i64 0, .int .i64 0, .int .i64 0, .int .i64 0, .int .i64 0, .int .u32 0] 26)).cell? ⟨w.heap.size, 1, none⟩ = some (.int .i64 S) ∧ ((w.alloc (.cells #[.int .i64 K, .int .i64 S, .int .i64 T, .int .i64 E, .int .i64 G, .int .u32 I, .int .u32 R] 29)).alloc (.cells #[.int .i64 0, .int .i64 0, .int .i64 0, .int .i64 0, .int .i64 0, .int .u32 0] 26)).cell? ⟨w.heap.size, 2, none⟩ = some (.int .i64 T) ∧ ((w.alloc (.cells #[.int .i64 K, .int .i64 S, .int .i64 T, .int .i64 E, .int .i64 G, .int .u32 I, .int .u32 R] 29)).alloc (.cells #[.int .i64 0, .int .i64 0, .int .i64 0, .int .i64 0, .int .i64 0, .int .u32 0] 26)).cell? ⟨w.heap.size, 3, none⟩ = some (.int .i64 E) ∧ ((w.alloc (.cells #[.int .i64 K, .int .i64 S, .int .i64 T, .int .i64 E, .int .i64 G, .int .u32 I, .int .u32 R] 29)).alloc (.cells #[.int .i64 0, .int .i64 0, .int .i64 0, .int .i64 0, .int .i64 0, .int .u32 0] 26)).cell? ⟨w.heap.size, 4, none⟩ = some (.int .i64 G) ∧ ((w.alloc (.cells #[.int .i64 K, .int .i64 S, .int .i64 T, .int .i64 E, .int .i64 G, .int .u32 I, .int .u32 R] 29)).alloc (.cells #[.int .i64 0, .int .i64 0, .int .i64 0, .int .i64 0, .int .i64 0, .int .u32 0] 26)).cell? ⟨w.heap.size, 5, none⟩ = some (.int .u32 I) := by
      refine ⟨?_, ?_, ?_, ?_, ?_⟩ <;> simp
    have R1 := ins_row (w.alloc (.cells #[.int .i64 K, .int .i64 S, .int .i64 T, .int .i64 E, .int .i64 G, .int .u32 I, .int .u32 R] 29)) 0 0 0 0 0 0
    have B1 : Below w.heap.size w ((w.alloc (.cells #[.int .i64 K, .int .i64 S, .int .i64 T, .int .i64 E, .int .i64 G, .int .u32 I, .int .u32 R] 29)).alloc (.cells #[.int .i64 0, .int .i64 0, .int .i64 0, .int .i64 0, .int .i64 0, .int .u32 0] 26)) := by
      have hb9 := Below.refl w.heap.size w
      (repeat' (first | (with_reducible exact hb9) | (with_reducible apply bel_set) | (with_reducible apply bel_alloc) | (with_reducible apply below_drewN) | (simp; done) | (simp; omega) | omega | (simp [World.setCell]; done) | (simp [World.setCell]; omega)))
    have Z3 : (w.alloc (.cells #[.int .i64 K, .int .i64 S, .int .i64 T, .int .i64 E, .int .i64 G, .int .u32 I, .int .u32 R] 29)).heap.size = w.heap.size + 1 := by simp
    have Z4 : ((w.alloc (.cells #[.int .i64 K, .int .i64 S, .int .i64 T, .int .i64 E, .int .i64 G, .int .u32 I, .int .u32 R] 29)).alloc (.cells #[.int .i64 0, .int .i64 0, .int .i64 0, .int .i64 0, .int .i64 0, .int .u32 0] 26)).heap.size = w.heap.size + 2 := by simp
    generalize hW0 : (w.alloc (.cells #[.int .i64 K, .int .i64 S, .int .i64 T, .int .i64 E, .int .i64 G, .int .u32 I, .int .u32 R] 29)).alloc (.cells #[.int .i64 0, .int .i64 0, .int .i64 0, .int .i64 0, .int .i64 0, .int .u32 0] 26) = W0 at X1 R1 B1 Z4 ⊢
    clear hW0
    rw [Z3] at R1
    go_region_held3 (fun w' => w'.cell? ⟨w.heap.size, 1, none⟩ = some (.int .i64 S) ∧ w'.cell? ⟨w.heap.size, 2, none⟩ = some (.int .i64 T) ∧ w'.cell? ⟨w.heap.size, 3, none⟩ = some (.int .i64 E) ∧ w'.cell? ⟨w.heap.size, 4, none⟩ = some (.int .i64 G) ∧ w'.cell? ⟨w.heap.size, 5, none⟩ = some (.int .u32 I))
      (first | exact X1 | (go_keep))
      (first
      | (go_at_call 23; with_reducible refine (HNS.out _).mono ?_; rintro e w' ⟨rfl, rfl⟩)
      | (go_at_call 23; with_reducible refine (HNT.out _).mono ?_; rintro e w' ⟨rfl, rfl⟩)
      | (go_at_call 23; with_reducible refine (HNE.out _).mono ?_; rintro e w' ⟨rfl, rfl⟩)
      | (go_at_call 18; with_reducible refine (HNG.out _).mono ?_; rintro e w' ⟨rfl, rfl⟩))
    all_goals
      go_wp2_with fail
      go_meet
      exact ⟨rfl, by have := ins_row W0 k s t d h i; rw [Z4] at this; exact this, R1.alloc _, (B1.alloc (by omega) _).drew⟩
  case rest =>
    obtain ⟨rfl, hI, hO, hB⟩ := hcut
    have HC0 : Hid (Cn 0 k s t d h i) := ⟨ls, lt, ld, lh, li, by omega, by omega, by omega, by omega, by omega, by omega⟩
    clear HNS HNT HNE HNG HA
    go_wp2_with fail
    go_loopg [6] 6 (fun gh fi wr => ∃ f s t d h i : Nat, f + gh = 6 ∧ fi = .int .i64 f ∧ Hid (Cn f k s t d h i) ∧ wr.rowIs (w.heap.size + 2) 26 6 (insF k s t d h i) ∧ wr.rowIs (w.heap.size + 1) 26 6 (insF 0 0 0 0 0 0) ∧ Below w.heap.size w wr)
    case atStart => exact ⟨0, s, t, d, h, i, by omega, rfl, HC0, hI, hO, hB⟩
    case round =>
      clear hI hO hB HC0 ls lt ld lh li s t d h i
      obtain ⟨f, s, t, d, h, i, hf, rfl, HC, hI, hO, hB⟩ := hrel
      have hlt := hI.lt
      have hsz := hB.size
      obtain ⟨x0, x1, x2, x3, x4, x5⟩ := row_cells hI
      have z5 := fun j => hI.frozen j
      cases gk with
      | succ g =>
        have hf6 : f = 0 ∨ f = 1 ∨ f = 2 ∨ f = 3 ∨ f = 4 ∨ f = 5 := by omega
        have HA4 : bits .and .u32 (i : Int) 65535 = ((i % 65536 : Nat) : Int) := sub_and i (by have := HC.out.i0; omega) 65535 16 rfl (by omega)
        rcases hf6 with rfl | rfl | rfl | rfl | rfl | rfl
        · cases hg : D.rg (k : Int) 1 0 0 0 0
          · have HG := Lib.hid hg
            clear hg
            go_wp2_with fail
            refine (only0 _ _ _ _ _ _ _).mono ?_
            rintro e w1 ⟨rfl, hb1⟩
            go_wp2_with fail
            refine (rright_any _ _ _ _ _ _ _ (Lib.hid ⟨⟨by omega, by omega⟩, ⟨by omega, by omega⟩, ⟨by omega, by omega⟩, ⟨by omega, by omega⟩, ⟨by omega, by omega⟩, by omega, by have := HC.out.i0; omega⟩)).mono ?_
            rintro e w2 ⟨rfl, hb2⟩
            rw [HG.out]
            have hb3 := band hb1 hb2
            obtain ⟨hc, hfz⟩ := bcell hb3
            have hI2 := row_below (hI.alloc (.cells #[.int .i64 (k : Int), .int .i64 0, .int .i64 (t : Int), .int .i64 (d : Int), .int .i64 (h : Int), .int .u32 (i : Int)] 26)) hb3 (hI.alloc (.cells #[.int .i64 (k : Int), .int .i64 0, .int .i64 (t : Int), .int .i64 (d : Int), .int .i64 (h : Int), .int .u32 (i : Int)] 26)).lt
            have hO2 := row_below (hO.alloc (.cells #[.int .i64 (k : Int), .int .i64 0, .int .i64 (t : Int), .int .i64 (d : Int), .int .i64 (h : Int), .int .u32 (i : Int)] 26)) hb3 (hO.alloc (.cells #[.int .i64 (k : Int), .int .i64 0, .int .i64 (t : Int), .int .i64 (d : Int), .int .i64 (h : Int), .int .u32 (i : Int)] 26)).lt
            have hB2 := below_then hB (below_new (w := wr) (o := (.cells #[.int .i64 (k : Int), .int .i64 0, .int .i64 (t : Int), .int .i64 (d : Int), .int .i64 (h : Int), .int .u32 (i : Int)] 26))) (Nat.le_refl _)
            have hB3 := below_then hB2 hb3 (Nat.le_refl _)
            have hz2 : wr.heap.size < w2.heap.size := by have := hb3.size; simp at this; omega
            have HCn : Cn 1 k 0 t d h i := by
              have c := HC.out
              have hm := rgS h1 h2 false HG.out; simp at hm
              exact ⟨by have := c.s0; omega, by have := c.t0; omega, by have := c.d0; omega, by have := c.h0; omega, by have := c.i0; omega, fun _ => by have := c.s0; have := c.fs; omega, fun _ => by have := c.t0; have := c.ft; omega, fun _ => by have := c.d0; have := c.fd; omega, fun _ => by have := c.h0; have := c.fh; omega, fun _ => by have := c.i0; have := c.fi; omega, fun _ => by have := c.i0; have := c.fi; omega⟩
            clear hb1 hb2
            go_wp2_with fail
            go_roundg g
            case measure => omega
            case rel => exact ⟨1, 0, t, d, h, i, by omega, by rfl, HCn, row_set6 hI2 _ _ _ _ _ _, row_off6 hO2 (by omega) _ _ _ _ _ _, by (repeat' (first | (with_reducible exact hB3) | (with_reducible apply bel_set) | (with_reducible apply bel_alloc) | (with_reducible apply below_drewN) | (simp; done) | (simp; omega) | omega | (simp [World.setCell]; done) | (simp [World.setCell]; omega)))⟩
          · have HG := Lib.hid hg
            clear hg
            go_wp2_with fail
            refine (only0 _ _ _ _ _ _ _).mono ?_
            rintro e w1 ⟨rfl, hb1⟩
            go_wp2_with fail
            refine (rright_any _ _ _ _ _ _ _ (Lib.hid ⟨⟨by omega, by omega⟩, ⟨by omega, by omega⟩, ⟨by omega, by omega⟩, ⟨by omega, by omega⟩, ⟨by omega, by omega⟩, by omega, by have := HC.out.i0; omega⟩)).mono ?_
            rintro e w2 ⟨rfl, hb2⟩
            rw [HG.out]
            have hb3 := band hb1 hb2
            obtain ⟨hc, hfz⟩ := bcell hb3
            have hI2 := row_below (hI.alloc (.cells #[.int .i64 (k : Int), .int .i64 0, .int .i64 (t : Int), .int .i64 (d : Int), .int .i64 (h : Int), .int .u32 (i : Int)] 26)) hb3 (hI.alloc (.cells #[.int .i64 (k : Int), .int .i64 0, .int .i64 (t : Int), .int .i64 (d : Int), .int .i64 (h : Int), .int .u32 (i : Int)] 26)).lt
            have hO2 := row_below (hO.alloc (.cells #[.int .i64 (k : Int), .int .i64 0, .int .i64 (t : Int), .int .i64 (d : Int), .int .i64 (h : Int), .int .u32 (i : Int)] 26)) hb3 (hO.alloc (.cells #[.int .i64 (k : Int), .int .i64 0, .int .i64 (t : Int), .int .i64 (d : Int), .int .i64 (h : Int), .int .u32 (i : Int)] 26)).lt
            have hB2 := below_then hB (below_new (w := wr) (o := (.cells #[.int .i64 (k : Int), .int .i64 0, .int .i64 (t : Int), .int .i64 (d : Int), .int .i64 (h : Int), .int .u32 (i : Int)] 26))) (Nat.le_refl _)
            have hB3 := below_then hB2 hb3 (Nat.le_refl _)
            have hz2 : wr.heap.size < w2.heap.size := by have := hb3.size; simp at this; omega
            have HCn : Cn 1 k s t d h i := by
              have c := HC.out
              have hm := rgS h1 h2 true HG.out; simp at hm
              exact ⟨by have := c.s0; omega, by have := c.t0; omega, by have := c.d0; omega, by have := c.h0; omega, by have := c.i0; omega, fun _ => by have := c.s0; have := c.fs; omega, fun _ => by have := c.t0; have := c.ft; omega, fun _ => by have := c.d0; have := c.fd; omega, fun _ => by have := c.h0; have := c.fh; omega, fun _ => by have := c.i0; have := c.fi; omega, fun _ => by have := c.i0; have := c.fi; omega⟩
            clear hb1 hb2
            go_wp2_with fail
            go_roundg g
            case measure => omega
            case rel => exact ⟨1, s, t, d, h, i, by omega, by rfl, HCn, hI2, hO2, hB3⟩
        · cases hg : D.rg (k : Int) 0 1 0 0 0
          · have HG := Lib.hid hg
            clear hg
            go_wp2_with fail
            refine (only1 _ _ _ _ _ _ _).mono ?_
            rintro e w1 ⟨rfl, hb1⟩
            go_wp2_with fail
            refine (rright_any _ _ _ _ _ _ _ (Lib.hid ⟨⟨by omega, by omega⟩, ⟨by omega, by omega⟩, ⟨by omega, by omega⟩, ⟨by omega, by omega⟩, ⟨by omega, by omega⟩, by omega, by have := HC.out.i0; omega⟩)).mono ?_
            rintro e w2 ⟨rfl, hb2⟩
            rw [HG.out]
            have hb3 := band hb1 hb2
            obtain ⟨hc, hfz⟩ := bcell hb3
            have hI2 := row_below (hI.alloc (.cells #[.int .i64 (k : Int), .int .i64 (s : Int), .int .i64 0, .int .i64 (d : Int), .int .i64 (h : Int), .int .u32 (i : Int)] 26)) hb3 (hI.alloc (.cells #[.int .i64 (k : Int), .int .i64 (s : Int), .int .i64 0, .int .i64 (d : Int), .int .i64 (h : Int), .int .u32 (i : Int)] 26)).lt
            have hO2 := row_below (hO.alloc (.cells #[.int .i64 (k : Int), .int .i64 (s : Int), .int .i64 0, .int .i64 (d : Int), .int .i64 (h : Int), .int .u32 (i : Int)] 26)) hb3 (hO.alloc (.cells #[.int .i64 (k : Int), .int .i64 (s : Int), .int .i64 0, .int .i64 (d : Int), .int .i64 (h : Int), .int .u32 (i : Int)] 26)).lt
            have hB2 := below_then hB (below_new (w := wr) (o := (.cells #[.int .i64 (k : Int), .int .i64 (s : Int), .int .i64 0, .int .i64 (d : Int), .int .i64 (h : Int), .int .u32 (i : Int)] 26))) (Nat.le_refl _)
            have hB3 := below_then hB2 hb3 (Nat.le_refl _)
            have hz2 : wr.heap.size < w2.heap.size := by have := hb3.size; simp at this; omega
            have HCn : Cn 2 k s 0 d h i := by
              have c := HC.out
              have hm := rgT h1 h2 false HG.out; simp at hm
              exact ⟨by have := c.s0; omega, by have := c.t0; omega, by have := c.d0; omega, by have := c.h0; omega, by have := c.i0; omega, fun _ => by have := c.s0; have := c.fs; omega, fun _ => by have := c.t0; have := c.ft; omega, fun _ => by have := c.d0; have := c.fd; omega, fun _ => by have := c.h0; have := c.fh; omega, fun _ => by have := c.i0; have := c.fi; omega, fun _ => by have := c.i0; have := c.fi; omega⟩
            clear hb1 hb2
            go_wp2_with fail
            go_roundg g
            case measure => omega
            case rel => exact ⟨2, s, 0, d, h, i, by omega, by rfl, HCn, row_set6 hI2 _ _ _ _ _ _, row_off6 hO2 (by omega) _ _ _ _ _ _, by (repeat' (first | (with_reducible exact hB3) | (with_reducible apply bel_set) | (with_reducible apply bel_alloc) | (with_reducible apply below_drewN) | (simp; done) | (simp; omega) | omega | (simp [World.setCell]; done) | (simp [World.setCell]; omega)))⟩
          · have HG := Lib.hid hg
            clear hg
            go_wp2_with fail
            refine (only1 _ _ _ _ _ _ _).mono ?_
            rintro e w1 ⟨rfl, hb1⟩
            go_wp2_with fail
            refine (rright_any _ _ _ _ _ _ _ (Lib.hid ⟨⟨by omega, by omega⟩, ⟨by omega, by omega⟩, ⟨by omega, by omega⟩, ⟨by omega, by omega⟩, ⟨by omega, by omega⟩, by omega, by have := HC.out.i0; omega⟩)).mono ?_
            rintro e w2 ⟨rfl, hb2⟩
            rw [HG.out]
            have hb3 := band hb1 hb2
            obtain ⟨hc, hfz⟩ := bcell hb3
            have hI2 := row_below (hI.alloc (.cells #[.int .i64 (k : Int), .int .i64 (s : Int), .int .i64 0, .int .i64 (d : Int), .int .i64 (h : Int), .int .u32 (i : Int)] 26)) hb3 (hI.alloc (.cells #[.int .i64 (k : Int), .int .i64 (s : Int), .int .i64 0, .int .i64 (d : Int), .int .i64 (h : Int), .int .u32 (i : Int)] 26)).lt
            have hO2 := row_below (hO.alloc (.cells #[.int .i64 (k : Int), .int .i64 (s : Int), .int .i64 0, .int .i64 (d : Int), .int .i64 (h : Int), .int .u32 (i : Int)] 26)) hb3 (hO.alloc (.cells #[.int .i64 (k : Int), .int .i64 (s : Int), .int .i64 0, .int .i64 (d : Int), .int .i64 (h : Int), .int .u32 (i : Int)] 26)).lt
            have hB2 := below_then hB (below_new (w := wr) (o := (.cells #[.int .i64 (k : Int), .int .i64 (s : Int), .int .i64 0, .int .i64 (d : Int), .int .i64 (h : Int), .int .u32 (i : Int)] 26))) (Nat.le_refl _)
            have hB3 := below_then hB2 hb3 (Nat.le_refl _)
            have hz2 : wr.heap.size < w2.heap.size := by have := hb3.size; simp at this; omega
            have HCn : Cn 2 k s t d h i := by
              have c := HC.out
              have hm := rgT h1 h2 true HG.out; simp at hm
              exact ⟨by have := c.s0; omega, by have := c.t0; omega, by have := c.d0; omega, by have := c.h0; omega, by have := c.i0; omega, fun _ => by have := c.s0; have := c.fs; omega, fun _ => by have := c.t0; have := c.ft; omega, fun _ => by have := c.d0; have := c.fd; omega, fun _ => by have := c.h0; have := c.fh; omega, fun _ => by have := c.i0; have := c.fi; omega, fun _ => by have := c.i0; have := c.fi; omega⟩
            clear hb1 hb2
            go_wp2_with fail
            go_roundg g
            case measure => omega
            case rel => exact ⟨2, s, t, d, h, i, by omega, by rfl, HCn, hI2, hO2, hB3⟩
        · cases hg : D.rg (k : Int) 0 0 1 0 0
          · have HG := Lib.hid hg
            clear hg
            go_wp2_with fail
            refine (only2 _ _ _ _ _ _ _).mono ?_
            rintro e w1 ⟨rfl, hb1⟩
            go_wp2_with fail
            refine (rright_any _ _ _ _ _ _ _ (Lib.hid ⟨⟨by omega, by omega⟩, ⟨by omega, by omega⟩, ⟨by omega, by omega⟩, ⟨by omega, by omega⟩, ⟨by omega, by omega⟩, by omega, by have := HC.out.i0; omega⟩)).mono ?_
            rintro e w2 ⟨rfl, hb2⟩
            rw [HG.out]
            have hb3 := band hb1 hb2
            obtain ⟨hc, hfz⟩ := bcell hb3
            have hI2 := row_below (hI.alloc (.cells #[.int .i64 (k : Int), .int .i64 (s : Int), .int .i64 (t : Int), .int .i64 0, .int .i64 (h : Int), .int .u32 (i : Int)] 26)) hb3 (hI.alloc (.cells #[.int .i64 (k : Int), .int .i64 (s : Int), .int .i64 (t : Int), .int .i64 0, .int .i64 (h : Int), .int .u32 (i : Int)] 26)).lt
            have hO2 := row_below (hO.alloc (.cells #[.int .i64 (k : Int), .int .i64 (s : Int), .int .i64 (t : Int), .int .i64 0, .int .i64 (h : Int), .int .u32 (i : Int)] 26)) hb3 (hO.alloc (.cells #[.int .i64 (k : Int), .int .i64 (s : Int), .int .i64 (t : Int), .int .i64 0, .int .i64 (h : Int), .int .u32 (i : Int)] 26)).lt
            have hB2 := below_then hB (below_new (w := wr) (o := (.cells #[.int .i64 (k : Int), .int .i64 (s : Int), .int .i64 (t : Int), .int .i64 0, .int .i64 (h : Int), .int .u32 (i : Int)] 26))) (Nat.le_refl _)
            have hB3 := below_then hB2 hb3 (Nat.le_refl _)
            have hz2 : wr.heap.size < w2.heap.size := by have := hb3.size; simp at this; omega
            have HCn : Cn 3 k s t 0 h i := by
              have c := HC.out
              have hm := rgD h1 h2 false HG.out; simp at hm
              exact ⟨by have := c.s0; omega, by have := c.t0; omega, by have := c.d0; omega, by have := c.h0; omega, by have := c.i0; omega, fun _ => by have := c.s0; have := c.fs; omega, fun _ => by have := c.t0; have := c.ft; omega, fun _ => by have := c.d0; have := c.fd; omega, fun _ => by have := c.h0; have := c.fh; omega, fun _ => by have := c.i0; have := c.fi; omega, fun _ => by have := c.i0; have := c.fi; omega⟩
            clear hb1 hb2
            go_wp2_with fail
            go_roundg g
            case measure => omega
            case rel => exact ⟨3, s, t, 0, h, i, by omega, by rfl, HCn, row_set6 hI2 _ _ _ _ _ _, row_off6 hO2 (by omega) _ _ _ _ _ _, by (repeat' (first | (with_reducible exact hB3) | (with_reducible apply bel_set) | (with_reducible apply bel_alloc) | (with_reducible apply below_drewN) | (simp; done) | (simp; omega) | omega | (simp [World.setCell]; done) | (simp [World.setCell]; omega)))⟩
          · have HG := Lib.hid hg
            clear hg
            go_wp2_with fail
            refine (only2 _ _ _ _ _ _ _).mono ?_
            rintro e w1 ⟨rfl, hb1⟩
            go_wp2_with fail
            refine (rright_any _ _ _ _ _ _ _ (Lib.hid ⟨⟨by omega, by omega⟩, ⟨by omega, by omega⟩, ⟨by omega, by omega⟩, ⟨by omega, by omega⟩, ⟨by omega, by omega⟩, by omega, by have := HC.out.i0; omega⟩)).mono ?_
            rintro e w2 ⟨rfl, hb2⟩
            rw [HG.out]
            have hb3 := band hb1 hb2
            obtain ⟨hc, hfz⟩ := bcell hb3
            have hI2 := row_below (hI.alloc (.cells #[.int .i64 (k : Int), .int .i64 (s : Int), .int .i64 (t : Int), .int .i64 0, .int .i64 (h : Int), .int .u32 (i : Int)] 26)) hb3 (hI.alloc (.cells #[.int .i64 (k : Int), .int .i64 (s : Int), .int .i64 (t : Int), .int .i64 0, .int .i64 (h : Int), .int .u32 (i : Int)] 26)).lt
            have hO2 := row_below (hO.alloc (.cells #[.int .i64 (k : Int), .int .i64 (s : Int), .int .i64 (t : Int), .int .i64 0, .int .i64 (h : Int), .int .u32 (i : Int)] 26)) hb3 (hO.alloc (.cells #[.int .i64 (k : Int), .int .i64 (s : Int), .int .i64 (t : Int), .int .i64 0, .int .i64 (h : Int), .int .u32 (i : Int)] 26)).lt
            have hB2 := below_then hB (below_new (w := wr) (o := (.cells #[.int .i64 (k : Int), .int .i64 (s : Int), .int .i64 (t : Int), .int .i64 0, .int .i64 (h : Int), .int .u32 (i : Int)] 26))) (Nat.le_refl _)
            have hB3 := below_then hB2 hb3 (Nat.le_refl _)
            have hz2 : wr.heap.size < w2.heap.size := by have := hb3.size; simp at this; omega
            have HCn : Cn 3 k s t d h i := by
              have c := HC.out
              have hm := rgD h1 h2 true HG.out; simp at hm
              exact ⟨by have := c.s0; omega, by have := c.t0; omega, by have := c.d0; omega, by have := c.h0; omega, by have := c.i0; omega, fun _ => by have := c.s0; have := c.fs; omega, fun _ => by have := c.t0; have := c.ft; omega, fun _ => by have := c.d0; have := c.fd; omega, fun _ => by have := c.h0; have := c.fh; omega, fun _ => by have := c.i0; have := c.fi; omega, fun _ => by have := c.i0; have := c.fi; omega⟩
            clear hb1 hb2
            go_wp2_with fail
            go_roundg g
            case measure => omega
            case rel => exact ⟨3, s, t, d, h, i, by omega, by rfl, HCn, hI2, hO2, hB3⟩
        · cases hg : D.rg (k : Int) 0 0 0 1 0
          · have HG := Lib.hid hg
            clear hg
            go_wp2_with fail
            refine (only3 _ _ _ _ _ _ _).mono ?_
            rintro e w1 ⟨rfl, hb1⟩
            go_wp2_with fail
            refine (rright_any _ _ _ _ _ _ _ (Lib.hid ⟨⟨by omega, by omega⟩, ⟨by omega, by omega⟩, ⟨by omega, by omega⟩, ⟨by omega, by omega⟩, ⟨by omega, by omega⟩, by omega, by have := HC.out.i0; omega⟩)).mono ?_
            rintro e w2 ⟨rfl, hb2⟩
            rw [HG.out]
            have hb3 := band hb1 hb2
            obtain ⟨hc, hfz⟩ := bcell hb3
            have hI2 := row_below (hI.alloc (.cells #[.int .i64 (k : Int), .int .i64 (s : Int), .int .i64 (t : Int), .int .i64 (d : Int), .int .i64 0, .int .u32 (i : Int)] 26)) hb3 (hI.alloc (.cells #[.int .i64 (k : Int), .int .i64 (s : Int), .int .i64 (t : Int), .int .i64 (d : Int), .int .i64 0, .int .u32 (i : Int)] 26)).lt
            have hO2 := row_below (hO.alloc (.cells #[.int .i64 (k : Int), .int .i64 (s : Int), .int .i64 (t : Int), .int .i64 (d : Int), .int .i64 0, .int .u32 (i : Int)] 26)) hb3 (hO.alloc (.cells #[.int .i64 (k : Int), .int .i64 (s : Int), .int .i64 (t : Int), .int .i64 (d : Int), .int .i64 0, .int .u32 (i : Int)] 26)).lt
            have hB2 := below_then hB (below_new (w := wr) (o := (.cells #[.int .i64 (k : Int), .int .i64 (s : Int), .int .i64 (t : Int), .int .i64 (d : Int), .int .i64 0, .int .u32 (i : Int)] 26))) (Nat.le_refl _)
            have hB3 := below_then hB2 hb3 (Nat.le_refl _)
            have hz2 : wr.heap.size < w2.heap.size := by have := hb3.size; simp at this; omega
            have HCn : Cn 4 k s t d 0 i := by
              have c := HC.out
              have hm := rgH h1 h2 false HG.out; simp at hm
              exact ⟨by have := c.s0; omega, by have := c.t0; omega, by have := c.d0; omega, by have := c.h0; omega, by have := c.i0; omega, fun _ => by have := c.s0; have := c.fs; omega, fun _ => by have := c.t0; have := c.ft; omega, fun _ => by have := c.d0; have := c.fd; omega, fun _ => by have := c.h0; have := c.fh; omega, fun _ => by have := c.i0; have := c.fi; omega, fun _ => by have := c.i0; have := c.fi; omega⟩
            clear hb1 hb2
            go_wp2_with fail
            go_roundg g
            case measure => omega
            case rel => exact ⟨4, s, t, d, 0, i, by omega, by rfl, HCn, row_set6 hI2 _ _ _ _ _ _, row_off6 hO2 (by omega) _ _ _ _ _ _, by (repeat' (first | (with_reducible exact hB3) | (with_reducible apply bel_set) | (with_reducible apply bel_alloc) | (with_reducible apply below_drewN) | (simp; done) | (simp; omega) | omega | (simp [World.setCell]; done) | (simp [World.setCell]; omega)))⟩
          · have HG := Lib.hid hg
            clear hg
            go_wp2_with fail
            refine (only3 _ _ _ _ _ _ _).mono ?_
            rintro e w1 ⟨rfl, hb1⟩
            go_wp2_with fail
            refine (rright_any _ _ _ _ _ _ _ (Lib.hid ⟨⟨by omega, by omega⟩, ⟨by omega, by omega⟩, ⟨by omega, by omega⟩, ⟨by omega, by omega⟩, ⟨by omega, by omega⟩, by omega, by have := HC.out.i0; omega⟩)).mono ?_
            rintro e w2 ⟨rfl, hb2⟩
            rw [HG.out]
            have hb3 := band hb1 hb2
            obtain ⟨hc, hfz⟩ := bcell hb3
            have hI2 := row_below (hI.alloc (.cells #[.int .i64 (k : Int), .int .i64 (s : Int), .int .i64 (t : Int), .int .i64 (d : Int), .int .i64 0, .int .u32 (i : Int)] 26)) hb3 (hI.alloc (.cells #[.int .i64 (k : Int), .int .i64 (s : Int), .int .i64 (t : Int), .int .i64 (d : Int), .int .i64 0, .int .u32 (i : Int)] 26)).lt
            have hO2 := row_below (hO.alloc (.cells #[.int .i64 (k : Int), .int .i64 (s : Int), .int .i64 (t : Int), .int .i64 (d : Int), .int .i64 0, .int .u32 (i : Int)] 26)) hb3 (hO.alloc (.cells #[.int .i64 (k : Int), .int .i64 (s : Int), .int .i64 (t : Int), .int .i64 (d : Int), .int .i64 0, .int .u32 (i : Int)] 26)).lt
            have hB2 := below_then hB (below_new (w := wr) (o := (.cells #[.int .i64 (k : Int), .int .i64 (s : Int), .int .i64 (t : Int), .int .i64 (d : Int), .int .i64 0, .int .u32 (i : Int)] 26))) (Nat.le_refl _)
            have hB3 := below_then hB2 hb3 (Nat.le_refl _)
            have hz2 : wr.heap.size < w2.heap.size := by have := hb3.size; simp at this; omega
            have HCn : Cn 4 k s t d h i := by
              have c := HC.out
              have hm := rgH h1 h2 true HG.out; simp at hm
              exact ⟨by have := c.s0; omega, by have := c.t0; omega, by have := c.d0; omega, by have := c.h0; omega, by have := c.i0; omega, fun _ => by have := c.s0; have := c.fs; omega, fun _ => by have := c.t0; have := c.ft; omega, fun _ => by have := c.d0; have := c.fd; omega, fun _ => by have := c.h0; have := c.fh; omega, fun _ => by have := c.i0; have := c.fi; omega, fun _ => by have := c.i0; have := c.fi; omega⟩
            clear hb1 hb2
            go_wp2_with fail
            go_roundg g
            case measure => omega
            case rel => exact ⟨4, s, t, d, h, i, by omega, by rfl, HCn, hI2, hO2, hB3⟩
        · cases hg : D.rg (k : Int) 0 0 0 0 (i : Int)
          · have HG := Lib.hid hg
            clear hg
            go_wp2_with fail
            refine (only4 _ _ _ _ _ _ _).mono ?_
            rintro e w1 ⟨rfl, hb1⟩
            go_wp2_with fail
            refine (rright_any _ _ _ _ _ _ _ (Lib.hid ⟨⟨by omega, by omega⟩, ⟨by omega, by omega⟩, ⟨by omega, by omega⟩, ⟨by omega, by omega⟩, ⟨by omega, by omega⟩, by omega, by have := HC.out.i0; omega⟩)).mono ?_
            rintro e w2 ⟨rfl, hb2⟩
            rw [HG.out]
            have hb3 := band hb1 hb2
            obtain ⟨hc, hfz⟩ := bcell hb3
            have hI2 := row_below (hI.alloc (.cells #[.int .i64 (k : Int), .int .i64 (s : Int), .int .i64 (t : Int), .int .i64 (d : Int), .int .i64 (h : Int), .int .u32 ((i % 65536 : Nat) : Int)] 26)) hb3 (hI.alloc (.cells #[.int .i64 (k : Int), .int .i64 (s : Int), .int .i64 (t : Int), .int .i64 (d : Int), .int .i64 (h : Int), .int .u32 ((i % 65536 : Nat) : Int)] 26)).lt
            have hO2 := row_below (hO.alloc (.cells #[.int .i64 (k : Int), .int .i64 (s : Int), .int .i64 (t : Int), .int .i64 (d : Int), .int .i64 (h : Int), .int .u32 ((i % 65536 : Nat) : Int)] 26)) hb3 (hO.alloc (.cells #[.int .i64 (k : Int), .int .i64 (s : Int), .int .i64 (t : Int), .int .i64 (d : Int), .int .i64 (h : Int), .int .u32 ((i % 65536 : Nat) : Int)] 26)).lt
            have hB2 := below_then hB (below_new (w := wr) (o := (.cells #[.int .i64 (k : Int), .int .i64 (s : Int), .int .i64 (t : Int), .int .i64 (d : Int), .int .i64 (h : Int), .int .u32 ((i % 65536 : Nat) : Int)] 26))) (Nat.le_refl _)
            have hB3 := below_then hB2 hb3 (Nat.le_refl _)
            have hz2 : wr.heap.size < w2.heap.size := by have := hb3.size; simp at this; omega
            have HCn : Cn 5 k s t d h (i % 65536) := by
              have c := HC.out
              have hm := (rgI h1 h2 i).2 HG.out; have hmi := D.mi k (by omega)
              exact ⟨by have := c.s0; omega, by have := c.t0; omega, by have := c.d0; omega, by have := c.h0; omega, by have := c.i0; omega, fun _ => by have := c.s0; have := c.fs; omega, fun _ => by have := c.t0; have := c.ft; omega, fun _ => by have := c.d0; have := c.fd; omega, fun _ => by have := c.h0; have := c.fh; omega, fun _ => by have := c.i0; have := c.fi; omega, fun _ => by have := c.i0; have := c.fi; omega⟩
            clear hb1 hb2
            go_wp2_with fail
            go_roundg g
            case measure => omega
            case rel => exact ⟨5, s, t, d, h, (i % 65536), by omega, by rfl, HCn, row_set6 hI2 _ _ _ _ _ _, row_off6 hO2 (by omega) _ _ _ _ _ _, by (repeat' (first | (with_reducible exact hB3) | (with_reducible apply bel_set) | (with_reducible apply bel_alloc) | (with_reducible apply below_drewN) | (simp; done) | (simp; omega) | omega | (simp [World.setCell]; done) | (simp [World.setCell]; omega)))⟩
          · have HG := Lib.hid hg
            clear hg
            go_wp2_with fail
            refine (only4 _ _ _ _ _ _ _).mono ?_
            rintro e w1 ⟨rfl, hb1⟩
            go_wp2_with fail
            refine (rright_any _ _ _ _ _ _ _ (Lib.hid ⟨⟨by omega, by omega⟩, ⟨by omega, by omega⟩, ⟨by omega, by omega⟩, ⟨by omega, by omega⟩, ⟨by omega, by omega⟩, by omega, by have := HC.out.i0; omega⟩)).mono ?_
            rintro e w2 ⟨rfl, hb2⟩
            rw [HG.out]
            have hb3 := band hb1 hb2
            obtain ⟨hc, hfz⟩ := bcell hb3
            have hI2 := row_below (hI.alloc (.cells #[.int .i64 (k : Int), .int .i64 (s : Int), .int .i64 (t : Int), .int .i64 (d : Int), .int .i64 (h : Int), .int .u32 ((i % 65536 : Nat) : Int)] 26)) hb3 (hI.alloc (.cells #[.int .i64 (k : Int), .int .i64 (s : Int), .int .i64 (t : Int), .int .i64 (d : Int), .int .i64 (h : Int), .int .u32 ((i % 65536 : Nat) : Int)] 26)).lt
            have hO2 := row_below (hO.alloc (.cells #[.int .i64 (k : Int), .int .i64 (s : Int), .int .i64 (t : Int), .int .i64 (d : Int), .int .i64 (h : Int), .int .u32 ((i % 65536 : Nat) : Int)] 26)) hb3 (hO.alloc (.cells #[.int .i64 (k : Int), .int .i64 (s : Int), .int .i64 (t : Int), .int .i64 (d : Int), .int .i64 (h : Int), .int .u32 ((i % 65536 : Nat) : Int)] 26)).lt
            have hB2 := below_then hB (below_new (w := wr) (o := (.cells #[.int .i64 (k : Int), .int .i64 (s : Int), .int .i64 (t : Int), .int .i64 (d : Int), .int .i64 (h : Int), .int .u32 ((i % 65536 : Nat) : Int)] 26))) (Nat.le_refl _)
            have hB3 := below_then hB2 hb3 (Nat.le_refl _)
            have hz2 : wr.heap.size < w2.heap.size := by have := hb3.size; simp at this; omega
            have HCn : Cn 5 k s t d h i := by
              have c := HC.out
              have hm := (rgI h1 h2 i).1 HG.out; have hmi := D.mi k (by omega)
              exact ⟨by have := c.s0; omega, by have := c.t0; omega, by have := c.d0; omega, by have := c.h0; omega, by have := c.i0; omega, fun _ => by have := c.s0; have := c.fs; omega, fun _ => by have := c.t0; have := c.ft; omega, fun _ => by have := c.d0; have := c.fd; omega, fun _ => by have := c.h0; have := c.fh; omega, fun _ => by have := c.i0; have := c.fi; omega, fun _ => by have := c.i0; have := c.fi; omega⟩
            clear hb1 hb2
            go_wp2_with fail
            go_roundg g
            case measure => omega
            case rel => exact ⟨5, s, t, d, h, i, by omega, by rfl, HCn, hI2, hO2, hB3⟩
        · cases hg : D.rg (k : Int) 0 0 0 0 1
          · have HG := Lib.hid hg
            clear hg
            go_wp2_with fail
            refine (only5 _ _ _ _ _ _ _).mono ?_
            rintro e w1 ⟨rfl, hb1⟩
            go_wp2_with fail
            refine (rright_any _ _ _ _ _ _ _ (Lib.hid ⟨⟨by omega, by omega⟩, ⟨by omega, by omega⟩, ⟨by omega, by omega⟩, ⟨by omega, by omega⟩, ⟨by omega, by omega⟩, by omega, by have := HC.out.i0; omega⟩)).mono ?_
            rintro e w2 ⟨rfl, hb2⟩
            rw [HG.out]
            have hb3 := band hb1 hb2
            obtain ⟨hc, hfz⟩ := bcell hb3
            have hI2 := row_below (hI.alloc (.cells #[.int .i64 (k : Int), .int .i64 (s : Int), .int .i64 (t : Int), .int .i64 (d : Int), .int .i64 (h : Int), .int .u32 0] 26)) hb3 (hI.alloc (.cells #[.int .i64 (k : Int), .int .i64 (s : Int), .int .i64 (t : Int), .int .i64 (d : Int), .int .i64 (h : Int), .int .u32 0] 26)).lt
            have hO2 := row_below (hO.alloc (.cells #[.int .i64 (k : Int), .int .i64 (s : Int), .int .i64 (t : Int), .int .i64 (d : Int), .int .i64 (h : Int), .int .u32 0] 26)) hb3 (hO.alloc (.cells #[.int .i64 (k : Int), .int .i64 (s : Int), .int .i64 (t : Int), .int .i64 (d : Int), .int .i64 (h : Int), .int .u32 0] 26)).lt
            have hB2 := below_then hB (below_new (w := wr) (o := (.cells #[.int .i64 (k : Int), .int .i64 (s : Int), .int .i64 (t : Int), .int .i64 (d : Int), .int .i64 (h : Int), .int .u32 0] 26))) (Nat.le_refl _)
            have hB3 := below_then hB2 hb3 (Nat.le_refl _)
            have hz2 : wr.heap.size < w2.heap.size := by have := hb3.size; simp at this; omega
            have HCn : Cn 6 k s t d h 0 := by
              have c := HC.out
              have hm := (rgI h1 h2 1).2 HG.out; have hmi := D.mi k (by omega)
              exact ⟨by have := c.s0; omega, by have := c.t0; omega, by have := c.d0; omega, by have := c.h0; omega, by have := c.i0; omega, fun _ => by have := c.s0; have := c.fs; omega, fun _ => by have := c.t0; have := c.ft; omega, fun _ => by have := c.d0; have := c.fd; omega, fun _ => by have := c.h0; have := c.fh; omega, fun _ => by have := c.i0; have := c.fi; omega, fun _ => by have := c.i0; have := c.fi; omega⟩
            clear hb1 hb2
            go_wp2_with fail
            go_roundg g
            case measure => omega
            case rel => exact ⟨6, s, t, d, h, 0, by omega, by rfl, HCn, row_set6 hI2 _ _ _ _ _ _, row_off6 hO2 (by omega) _ _ _ _ _ _, by (repeat' (first | (with_reducible exact hB3) | (with_reducible apply bel_set) | (with_reducible apply bel_alloc) | (with_reducible apply below_drewN) | (simp; done) | (simp; omega) | omega | (simp [World.setCell]; done) | (simp [World.setCell]; omega)))⟩
          · have HG := Lib.hid hg
            clear hg
            go_wp2_with fail
            refine (only5 _ _ _ _ _ _ _).mono ?_
            rintro e w1 ⟨rfl, hb1⟩
            go_wp2_with fail
            refine (rright_any _ _ _ _ _ _ _ (Lib.hid ⟨⟨by omega, by omega⟩, ⟨by omega, by omega⟩, ⟨by omega, by omega⟩, ⟨by omega, by omega⟩, ⟨by omega, by omega⟩, by omega, by have := HC.out.i0; omega⟩)).mono ?_
            rintro e w2 ⟨rfl, hb2⟩
            rw [HG.out]
            have hb3 := band hb1 hb2
            obtain ⟨hc, hfz⟩ := bcell hb3
            have hI2 := row_below (hI.alloc (.cells #[.int .i64 (k : Int), .int .i64 (s : Int), .int .i64 (t : Int), .int .i64 (d : Int), .int .i64 (h : Int), .int .u32 0] 26)) hb3 (hI.alloc (.cells #[.int .i64 (k : Int), .int .i64 (s : Int), .int .i64 (t : Int), .int .i64 (d : Int), .int .i64 (h : Int), .int .u32 0] 26)).lt
            have hO2 := row_below (hO.alloc (.cells #[.int .i64 (k : Int), .int .i64 (s : Int), .int .i64 (t : Int), .int .i64 (d : Int), .int .i64 (h : Int), .int .u32 0] 26)) hb3 (hO.alloc (.cells #[.int .i64 (k : Int), .int .i64 (s : Int), .int .i64 (t : Int), .int .i64 (d : Int), .int .i64 (h : Int), .int .u32 0] 26)).lt
            have hB2 := below_then hB (below_new (w := wr) (o := (.cells #[.int .i64 (k : Int), .int .i64 (s : Int), .int .i64 (t : Int), .int .i64 (d : Int), .int .i64 (h : Int), .int .u32 0] 26))) (Nat.le_refl _)
            have hB3 := below_then hB2 hb3 (Nat.le_refl _)
            have hz2 : wr.heap.size < w2.heap.size := by have := hb3.size; simp at this; omega
            have HCn : Cn 6 k s t d h i := by
              have c := HC.out
              have hm := (rgI h1 h2 1).1 HG.out; have hmi := D.mi k (by omega)
              exact ⟨by have := c.s0; omega, by have := c.t0; omega, by have := c.d0; omega, by have := c.h0; omega, by have := c.i0; omega, fun _ => by have := c.s0; have := c.fs; omega, fun _ => by have := c.t0; have := c.ft; omega, fun _ => by have := c.d0; have := c.fd; omega, fun _ => by have := c.h0; have := c.fh; omega, fun _ => by have := c.i0; have := c.fi; omega, fun _ => by have := c.i0; have := c.fi; omega⟩
            clear hb1 hb2
            go_wp2_with fail
            go_roundg g
            case measure => omega
            case rel => exact ⟨6, s, t, d, h, i, by omega, by rfl, HCn, hI2, hO2, hB3⟩
      | zero =>
        obtain rfl : f = 6 := by omega
        have zo := fun j => hO.frozen j
        obtain ⟨o0, o1, o2, o3, o4, o5⟩ := row_cells hO
        have hlo := hO.lt
        go_wp2
        have c := HC.out
        refine bodyPost_ret (v := .agg #[.int .i64 ((k : Int)), .int .i64 ((s : Int)), .int .i64 ((t : Int)), .int .i64 ((d : Int)), .int .i64 ((h : Int)), .int .u32 ((i : Int))]) (by simp [results, Try.results17, go_sem, o0, o1, o2, o3, o4, o5]) rfl ⟨s, t, d, h, i, rfl, c.fs (by omega), c.ft (by omega), c.fd (by omega), c.fh (by omega), c.fj (by omega), ?_⟩
        (repeat' (first | (with_reducible exact hB) | (with_reducible apply bel_set) | (with_reducible apply bel_alloc) | (with_reducible apply below_drewN) | (simp; done) | (simp; omega) | omega | (simp [World.setCell]; done) | (simp [World.setCell]; omega)))
end Go.Proofs.Ytmjlbffphaklgaa
