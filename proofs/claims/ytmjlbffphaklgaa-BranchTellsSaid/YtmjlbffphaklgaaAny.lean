/-
  Chapter 3: instructions as they are drawn: functions Any, Plain.
-/
import Derived.Test.YtmjlbffphaklgaaInst
namespace Go.Proofs.Ytmjlbffphaklgaa
open Go.RowKit
set_option linter.unusedVariables false

/-- the cells of an instruction as it is drawn, in block b -/
abbrev Drawn (w : World) (b : Nat) (K S T E G I R : Int) : Prop := w.cell? ⟨b, 0, none⟩ = some (.int .i64 K) ∧ w.cell? ⟨b, 1, none⟩ = some (.int .i64 S) ∧ w.cell? ⟨b, 2, none⟩ = some (.int .i64 T) ∧ w.cell? ⟨b, 3, none⟩ = some (.int .i64 E) ∧ w.cell? ⟨b, 4, none⟩ = some (.int .i64 G) ∧ w.cell? ⟨b, 5, none⟩ = some (.int .u32 I) ∧ w.cell? ⟨b, 6, none⟩ = some (.int .u32 R)
theorem drawn_below {w w' : World} {b B : Nat} {K S T E G I R : Int} (x : Drawn w b K S T E G I R) (hb : Below B w w') (hB : b < B) : Drawn w' b K S T E G I R := by
  obtain ⟨a0, a1, a2, a3, a4, a5, a6⟩ := x
  exact ⟨(hb.cell (p := ⟨b, 0, none⟩) hB).trans a0, (hb.cell (p := ⟨b, 1, none⟩) hB).trans a1, (hb.cell (p := ⟨b, 2, none⟩) hB).trans a2, (hb.cell (p := ⟨b, 3, none⟩) hB).trans a3, (hb.cell (p := ⟨b, 4, none⟩) hB).trans a4, (hb.cell (p := ⟨b, 5, none⟩) hB).trans a5, (hb.cell (p := ⟨b, 6, none⟩) hB).trans a6⟩
theorem drawn_new (w : World) (K S T E G I R : Int) : Drawn (w.alloc (.cells #[.int .i64 K, .int .i64 S, .int .i64 T, .int .i64 E, .int .i64 G, .int .u32 I, .int .u32 R] 29)) w.heap.size K S T E G I R := by
  refine ⟨?_, ?_, ?_, ?_, ?_, ?_, ?_⟩ <;> simp
theorem cell_off6 {w : World} {a : Addr} {v : Value} (x : w.cell? a = some v) {b : Nat} (hc : b ≠ a.block) (u0 u1 u2 u3 u4 u5 : Value) :
    ((((((w.setCell ⟨b, 0, none⟩ u0).setCell ⟨b, 1, none⟩ u1).setCell ⟨b, 2, none⟩ u2).setCell ⟨b, 3, none⟩ u3).setCell ⟨b, 4, none⟩ u4).setCell ⟨b, 5, none⟩ u5).cell? a = some v := by
  rw [World.cell?_setCell_far _ _ _ _ hc, World.cell?_setCell_far _ _ _ _ hc, World.cell?_setCell_far _ _ _ _ hc, World.cell?_setCell_far _ _ _ _ hc, World.cell?_setCell_far _ _ _ _ hc, World.cell?_setCell_far _ _ _ _ hc]
  exact x
theorem drawn_off6 {w : World} {b c : Nat} {K S T E G I R : Int} (x : Drawn w c K S T E G I R) (hc : b ≠ c) (u0 u1 u2 u3 u4 u5 : Value) :
    Drawn ((((((w.setCell ⟨b, 0, none⟩ u0).setCell ⟨b, 1, none⟩ u1).setCell ⟨b, 2, none⟩ u2).setCell ⟨b, 3, none⟩ u3).setCell ⟨b, 4, none⟩ u4).setCell ⟨b, 5, none⟩ u5) c K S T E G I R := by
  obtain ⟨a0, a1, a2, a3, a4, a5, a6⟩ := x
  refine ⟨?_, ?_, ?_, ?_, ?_, ?_, ?_⟩
  all_goals
    rw [World.cell?_setCell_far _ _ _ _ hc, World.cell?_setCell_far _ _ _ _ hc, World.cell?_setCell_far _ _ _ _ hc, World.cell?_setCell_far _ _ _ _ hc, World.cell?_setCell_far _ _ _ _ hc, World.cell?_setCell_far _ _ _ _ hc]
    assumption
/-- an instruction that is right, of some Kind -/
def AnyP (w : World) (e : Ending) (w' : World) : Prop := ∃ k : Nat, 1 ≤ k ∧ k ≤ 77 ∧ InstP w k e w'
theorem row_one {w : World} {b : Nat} {F : Nat → Value} (x : w.rowIs b 26 6 F) : (∀ j, w.frozen? ⟨b, j, none⟩ = false) ∧ w.cell? ⟨b, 0, none⟩ = some (F 0) ∧ w.cell? ⟨b, 1, none⟩ = some (F 1) ∧ w.cell? ⟨b, 2, none⟩ = some (F 2) ∧ w.cell? ⟨b, 3, none⟩ = some (F 3) ∧ w.cell? ⟨b, 4, none⟩ = some (F 4) ∧ w.cell? ⟨b, 5, none⟩ = some (F 5) :=
  ⟨fun j => x.frozen j, x.cell (by omega), x.cell (by omega), x.cell (by omega), x.cell (by omega), x.cell (by omega), x.cell (by omega)⟩

set_option maxRecDepth 100000 in
set_option maxHeartbeats 4000000 in
theorem any_any (K S T E G I R : Int) (w : World) (hx : Hid (InX K S T E G I R)) : Calls Try.prog 9 #[.agg #[.int .i64 K, .int .i64 S, .int .i64 T, .int .i64 E, .int .i64 G, .int .u32 I, .int .u32 R]] w (AnyP w) := by
  have WI := fun w => within_eq K 1048576 w (by omega) (by omega) hx.out.k.1 hx.out.k.2
  obtain ⟨v, hv⟩ := Int.eq_ofNat_of_zero_le (wiF_rng K 1048576 (by omega)).1
  rw [hv] at WI
  have hv1 : v ≤ 1048576 := by have := (wiF_rng K 1048576 (by omega)).2; omega
  clear hv
  have HW := Lib.hid WI
  clear WI
  obtain ⟨kk, HK⟩ : ∃ kk : Nat, Hid (kk = 1 + v % 77) := ⟨_, rfl⟩
  have k1 : 1 ≤ kk := by have := HK.out; omega
  have k2 : kk ≤ 77 := by have := HK.out; omega
  have T1 : (v : Int).tmod 77 = ((v % 77 : Nat) : Int) := by rw [Int.tmod_eq_emod_of_nonneg (by omega)]; omega
  have T2 : IntKind.i64.wrap (1 + ((v % 77 : Nat) : Int)) = (kk : Int) := by rw [IntKind.wrap_i64]; have := HK.out; omega
  generalize v % 77 = m at T1 T2
  go_enter Try.func9, Try.ntmps9
  go_wp2_with fail
  have hb0 : Below w.heap.size w ((w.alloc (.cells #[.int .i64 K, .int .i64 S, .int .i64 T, .int .i64 E, .int .i64 G, .int .u32 I, .int .u32 R] 29)).alloc (.cells #[.int .i64 0, .int .i64 0, .int .i64 0, .int .i64 0, .int .i64 0, .int .u32 0] 26)) := by
    have hb9 := Below.refl w.heap.size w
    (repeat' (first | (with_reducible exact hb9) | (with_reducible apply bel_set) | (with_reducible apply bel_alloc) | (with_reducible apply below_drewN) | (simp; done) | (simp; omega) | omega | (simp [World.setCell]; done) | (simp [World.setCell]; omega)))
  have X1 := drawn_below (drawn_new w K S T E G I R) (below_new (w := w.alloc (.cells #[.int .i64 K, .int .i64 S, .int .i64 T, .int .i64 E, .int .i64 G, .int .u32 I, .int .u32 R] 29)) (o := (.cells #[.int .i64 0, .int .i64 0, .int .i64 0, .int .i64 0, .int .i64 0, .int .u32 0] 26))) (by simp)
  have R1 := ins_row (w.alloc (.cells #[.int .i64 K, .int .i64 S, .int .i64 T, .int .i64 E, .int .i64 G, .int .u32 I, .int .u32 R] 29)) 0 0 0 0 0 0
  have Z1 : (w.alloc (.cells #[.int .i64 K, .int .i64 S, .int .i64 T, .int .i64 E, .int .i64 G, .int .u32 I, .int .u32 R] 29)).heap.size = w.heap.size + 1 := by simp
  rw [Z1] at R1
  clear Z1
  generalize (w.alloc (.cells #[.int .i64 K, .int .i64 S, .int .i64 T, .int .i64 E, .int .i64 G, .int .u32 I, .int .u32 R] 29)).alloc (.cells #[.int .i64 0, .int .i64 0, .int .i64 0, .int .i64 0, .int .i64 0, .int .u32 0] 26) = W0 at hb0 X1 R1 ⊢
  have hz0 := R1.lt
  have X1d : Drawn W0.drew w.heap.size K S T E G I R := X1
  have R1d : (W0.drewN 1).rowIs (w.heap.size + 1) 26 6 (insF 0 0 0 0 0 0) := R1
  have hb0d := below_drewN hb0 1
  have hz0d : w.heap.size + 1 < (W0.drewN 1).heap.size := hz0
  clear hb0 X1 R1 hz0
  go_region_held3 (fun w' => w'.cell? ⟨w.heap.size, 0, none⟩ = some (.int .i64 K) ∧ w'.cell? ⟨w.heap.size, 1, none⟩ = some (.int .i64 S) ∧ w'.cell? ⟨w.heap.size, 2, none⟩ = some (.int .i64 T) ∧ w'.cell? ⟨w.heap.size, 3, none⟩ = some (.int .i64 E) ∧ w'.cell? ⟨w.heap.size, 4, none⟩ = some (.int .i64 G) ∧ w'.cell? ⟨w.heap.size, 5, none⟩ = some (.int .u32 I) ∧ w'.cell? ⟨w.heap.size, 6, none⟩ = some (.int .u32 R))
    (first | (with_reducible exact X1d) | (with_reducible exact X3) | (with_reducible exact drawn_off6 X3 (Nat.succ_ne_self _) _ _ _ _ _ _))
    (first
    | (go_at_call 18; with_reducible refine (HW.out _).mono ?_; rintro e w' ⟨rfl, rfl⟩)
    | (go_at_call 17; (with_reducible refine (inst_any _ _ _ _ _ _ _ kk _ hx k1 k2).mono ?_); rintro e w3 ⟨s, t, d, h, i, rfl, l1, l2, l3, l4, l5, hb3⟩; have X3 := drawn_below X1d hb3 (Nat.lt_of_succ_lt hz0d); have R3 := row_below R1d hb3 hz0d; obtain ⟨z3, y0, y1, y2, y3, y4, y5⟩ := row_one R3))
  all_goals
    go_wp2
    have hb9 := below_then hb0d hb3 (Nat.le_refl _)
    refine bodyPost_ret (v := .agg #[.int .i64 ((kk : Int)), .int .i64 ((s : Int)), .int .i64 ((t : Int)), .int .i64 ((d : Int)), .int .i64 ((h : Int)), .int .u32 ((i : Int))]) (by simp [results, Try.results9, go_sem, y0, y1, y2, y3, y4, y5]) rfl ⟨kk, k1, k2, s, t, d, h, i, rfl, l1, l2, l3, l4, l5, ?_⟩
    (repeat' (first | (with_reducible exact hb9) | (with_reducible apply bel_set) | (with_reducible apply bel_alloc) | (with_reducible apply below_drewN) | (simp; done) | (simp; omega) | omega | (simp [World.setCell]; done) | (simp [World.setCell]; omega)))
/-! lists of Kinds -/
def pn0 (j : Nat) : Nat := (#[1, 2, 3, 4, 5, 6, 9, 10, 13, 14, 15, 16, 17, 18, 19, 20, 21, 23, 25, 26, 27, 28, 29, 30, 31, 47, 48, 49, 50, 51, 52, 53, 63, 64, 65, 76, 77] : Array Nat).getD j 0
def pn1 (j : Nat) : Nat := (#[66, 67, 68, 69, 70, 71, 72, 73, 74, 75, 73, 68] : Array Nat).getD j 0
def pn2 (j : Nat) : Nat := (#[42, 43, 44, 45, 36, 37, 39, 42] : Array Nat).getD j 0
def pn3 (j : Nat) : Nat := (#[55, 54, 55, 57, 59, 56, 58, 60, 11, 61] : Array Nat).getD j 0
theorem pn0_r : ∀ j, j < 37 → 1 ≤ pn0 j ∧ pn0 j ≤ 77 := by decide +kernel
theorem pn1_r : ∀ j, j < 12 → 1 ≤ pn1 j ∧ pn1 j ≤ 77 := by decide +kernel
theorem pn2_r : ∀ j, j < 8 → 1 ≤ pn2 j ∧ pn2 j ≤ 77 := by decide +kernel
theorem pn3_r : ∀ j, j < 10 → 1 ≤ pn3 j ∧ pn3 j ≤ 77 := by decide +kernel
theorem ints_at {w : World} {cs : Array Value} {t : TypeId} {n : Nat} {f : Nat → Nat} (h : cs.toList = (List.range n).map fun j => Value.int .i64 (f j : Int)) (j : Nat) (hj : j < n) : (w.alloc (.cells cs t)).cell? ⟨w.heap.size, j, none⟩ = some (.int .i64 (f j : Int)) := by
  have e : (w.alloc (.cells cs t)).cell? ⟨w.heap.size, j, none⟩ = cs[j]? := by simp
  rw [e, ← Array.getElem?_toList, h, List.getElem?_map, List.getElem?_range hj]
  rfl

/-- an instruction that is right, of one of the Kinds that only reckon -/
def PlP (w : World) (e : Ending) (w' : World) : Prop := ∃ m : Nat, m < 37 ∧ InstP w (pn0 m) e w'
set_option maxRecDepth 100000 in
set_option maxHeartbeats 4000000 in
theorem plain_p_any (K S T E G I R : Int) (w : World) (hx : Hid (InX K S T E G I R)) : Calls Try.prog 11 #[.agg #[.int .i64 K, .int .i64 S, .int .i64 T, .int .i64 E, .int .i64 G, .int .u32 I, .int .u32 R]] w (PlP w) := by
  have WI := fun w => within_eq K 1048576 w (by omega) (by omega) hx.out.k.1 hx.out.k.2
  obtain ⟨v, hv⟩ := Int.eq_ofNat_of_zero_le (wiF_rng K 1048576 (by omega)).1
  rw [hv] at WI
  have hv1 : v ≤ 1048576 := by have := (wiF_rng K 1048576 (by omega)).2; omega
  clear hv
  have HW := Lib.hid WI
  clear WI
  have T1 : (v : Int).tmod 37 = ((v % 37 : Nat) : Int) := by rw [Int.tmod_eq_emod_of_nonneg (by omega)]; omega
  have m1 : v % 37 < 37 := by omega
  generalize v % 37 = m at T1 m1
  have m2 : (m : Int) < 37 := by omega
  obtain ⟨k1, k2⟩ := pn0_r m m1
  go_enter Try.func11, Try.ntmps11
  go_wp2_with fail
  have L1 := ints_at (w := (w.alloc (.cells #[.int .i64 K, .int .i64 S, .int .i64 T, .int .i64 E, .int .i64 G, .int .u32 I, .int .u32 R] 29)).alloc (.cells #[.int .i64 0, .int .i64 0, .int .i64 0, .int .i64 0, .int .i64 0, .int .u32 0] 26)) (cs := #[.int .i64 1, .int .i64 2, .int .i64 3, .int .i64 4, .int .i64 5, .int .i64 6, .int .i64 9, .int .i64 10, .int .i64 13, .int .i64 14, .int .i64 15, .int .i64 16, .int .i64 17, .int .i64 18, .int .i64 19, .int .i64 20, .int .i64 21, .int .i64 23, .int .i64 25, .int .i64 26, .int .i64 27, .int .i64 28, .int .i64 29, .int .i64 30, .int .i64 31, .int .i64 47, .int .i64 48, .int .i64 49, .int .i64 50, .int .i64 51, .int .i64 52, .int .i64 53, .int .i64 63, .int .i64 64, .int .i64 65, .int .i64 76, .int .i64 77]) (t := 3) (n := 37) (f := pn0) (by kernel_rfl) m m1
  have hb0 : Below w.heap.size w (((w.alloc (.cells #[.int .i64 K, .int .i64 S, .int .i64 T, .int .i64 E, .int .i64 G, .int .u32 I, .int .u32 R] 29)).alloc (.cells #[.int .i64 0, .int .i64 0, .int .i64 0, .int .i64 0, .int .i64 0, .int .u32 0] 26)).alloc (.cells #[.int .i64 1, .int .i64 2, .int .i64 3, .int .i64 4, .int .i64 5, .int .i64 6, .int .i64 9, .int .i64 10, .int .i64 13, .int .i64 14, .int .i64 15, .int .i64 16, .int .i64 17, .int .i64 18, .int .i64 19, .int .i64 20, .int .i64 21, .int .i64 23, .int .i64 25, .int .i64 26, .int .i64 27, .int .i64 28, .int .i64 29, .int .i64 30, .int .i64 31, .int .i64 47, .int .i64 48, .int .i64 49, .int .i64 50, .int .i64 51, .int .i64 52, .int .i64 53, .int .i64 63, .int .i64 64, .int .i64 65, .int .i64 76, .int .i64 77] 3)) := by
    have hb9 := Below.refl w.heap.size w
    (repeat' (first | (with_reducible exact hb9) | (with_reducible apply bel_set) | (with_reducible apply bel_alloc) | (with_reducible apply below_drewN) | (simp; done) | (simp; omega) | omega | (simp [World.setCell]; done) | (simp [World.setCell]; omega)))
  have X1 := drawn_below (drawn_below (drawn_new w K S T E G I R) (below_new (w := w.alloc (.cells #[.int .i64 K, .int .i64 S, .int .i64 T, .int .i64 E, .int .i64 G, .int .u32 I, .int .u32 R] 29)) (o := (.cells #[.int .i64 0, .int .i64 0, .int .i64 0, .int .i64 0, .int .i64 0, .int .u32 0] 26))) (by simp)) (below_new (w := (w.alloc (.cells #[.int .i64 K, .int .i64 S, .int .i64 T, .int .i64 E, .int .i64 G, .int .u32 I, .int .u32 R] 29)).alloc (.cells #[.int .i64 0, .int .i64 0, .int .i64 0, .int .i64 0, .int .i64 0, .int .u32 0] 26)) (o := .cells #[.int .i64 1, .int .i64 2, .int .i64 3, .int .i64 4, .int .i64 5, .int .i64 6, .int .i64 9, .int .i64 10, .int .i64 13, .int .i64 14, .int .i64 15, .int .i64 16, .int .i64 17, .int .i64 18, .int .i64 19, .int .i64 20, .int .i64 21, .int .i64 23, .int .i64 25, .int .i64 26, .int .i64 27, .int .i64 28, .int .i64 29, .int .i64 30, .int .i64 31, .int .i64 47, .int .i64 48, .int .i64 49, .int .i64 50, .int .i64 51, .int .i64 52, .int .i64 53, .int .i64 63, .int .i64 64, .int .i64 65, .int .i64 76, .int .i64 77] 3)) (by simp; omega)
  have R1 := (ins_row (w.alloc (.cells #[.int .i64 K, .int .i64 S, .int .i64 T, .int .i64 E, .int .i64 G, .int .u32 I, .int .u32 R] 29)) 0 0 0 0 0 0).alloc (.cells #[.int .i64 1, .int .i64 2, .int .i64 3, .int .i64 4, .int .i64 5, .int .i64 6, .int .i64 9, .int .i64 10, .int .i64 13, .int .i64 14, .int .i64 15, .int .i64 16, .int .i64 17, .int .i64 18, .int .i64 19, .int .i64 20, .int .i64 21, .int .i64 23, .int .i64 25, .int .i64 26, .int .i64 27, .int .i64 28, .int .i64 29, .int .i64 30, .int .i64 31, .int .i64 47, .int .i64 48, .int .i64 49, .int .i64 50, .int .i64 51, .int .i64 52, .int .i64 53, .int .i64 63, .int .i64 64, .int .i64 65, .int .i64 76, .int .i64 77] 3)
  have Z1 : (w.alloc (.cells #[.int .i64 K, .int .i64 S, .int .i64 T, .int .i64 E, .int .i64 G, .int .u32 I, .int .u32 R] 29)).heap.size = w.heap.size + 1 := by simp
  have Z2 : ((w.alloc (.cells #[.int .i64 K, .int .i64 S, .int .i64 T, .int .i64 E, .int .i64 G, .int .u32 I, .int .u32 R] 29)).alloc (.cells #[.int .i64 0, .int .i64 0, .int .i64 0, .int .i64 0, .int .i64 0, .int .u32 0] 26)).heap.size = w.heap.size + 2 := by simp
  rw [Z1] at R1
  rw [Z2] at L1
  clear Z1 Z2
  generalize ((w.alloc (.cells #[.int .i64 K, .int .i64 S, .int .i64 T, .int .i64 E, .int .i64 G, .int .u32 I, .int .u32 R] 29)).alloc (.cells #[.int .i64 0, .int .i64 0, .int .i64 0, .int .i64 0, .int .i64 0, .int .u32 0] 26)).alloc (.cells #[.int .i64 1, .int .i64 2, .int .i64 3, .int .i64 4, .int .i64 5, .int .i64 6, .int .i64 9, .int .i64 10, .int .i64 13, .int .i64 14, .int .i64 15, .int .i64 16, .int .i64 17, .int .i64 18, .int .i64 19, .int .i64 20, .int .i64 21, .int .i64 23, .int .i64 25, .int .i64 26, .int .i64 27, .int .i64 28, .int .i64 29, .int .i64 30, .int .i64 31, .int .i64 47, .int .i64 48, .int .i64 49, .int .i64 50, .int .i64 51, .int .i64 52, .int .i64 53, .int .i64 63, .int .i64 64, .int .i64 65, .int .i64 76, .int .i64 77] 3) = W0 at hb0 X1 R1 L1 ⊢
  have hz0 := R1.lt
  have hzl := block_lt_of_cell L1
  have X1d : Drawn W0.drew w.heap.size K S T E G I R ∧ W0.drew.cell? ⟨w.heap.size + 2, m, none⟩ = some (.int .i64 (pn0 m : Int)) := ⟨X1, L1⟩
  have R1d : (W0.drewN 1).rowIs (w.heap.size + 1) 26 6 (insF 0 0 0 0 0 0) := R1
  have hb0d := below_drewN hb0 1
  have hz0d : w.heap.size + 1 < (W0.drewN 1).heap.size := hz0
  have hzld : w.heap.size + 2 < (W0.drewN 1).heap.size := hzl
  clear hb0 X1 R1 hz0 L1 hzl
  go_region_held3 (fun w' => (w'.cell? ⟨w.heap.size, 0, none⟩ = some (.int .i64 K) ∧ w'.cell? ⟨w.heap.size, 1, none⟩ = some (.int .i64 S) ∧ w'.cell? ⟨w.heap.size, 2, none⟩ = some (.int .i64 T) ∧ w'.cell? ⟨w.heap.size, 3, none⟩ = some (.int .i64 E) ∧ w'.cell? ⟨w.heap.size, 4, none⟩ = some (.int .i64 G) ∧ w'.cell? ⟨w.heap.size, 5, none⟩ = some (.int .u32 I) ∧ w'.cell? ⟨w.heap.size, 6, none⟩ = some (.int .u32 R)) ∧ w'.cell? ⟨w.heap.size + 2, m, none⟩ = some (.int .i64 (pn0 m : Int)))
    (first | (with_reducible exact X1d) | (with_reducible exact X3) | (with_reducible exact ⟨drawn_off6 X3.1 (Nat.succ_ne_self _) _ _ _ _ _ _, X4⟩))
    (first
    | (go_at_call 18; with_reducible refine (HW.out _).mono ?_; rintro e w' ⟨rfl, rfl⟩)
    | (go_at_call 17; (with_reducible refine (inst_any _ _ _ _ _ _ _ (pn0 m) _ hx k1 k2).mono ?_); rintro e w3 ⟨s, t, d, h, i, rfl, l1, l2, l3, l4, l5, hb3⟩; have X3 : Drawn w3 w.heap.size K S T E G I R ∧ w3.cell? ⟨w.heap.size + 2, m, none⟩ = some (.int .i64 (pn0 m : Int)) := ⟨drawn_below X1d.1 hb3 (Nat.lt_of_succ_lt hz0d), (hb3.cell (p := ⟨w.heap.size + 2, m, none⟩) hzld).trans X1d.2⟩; have R3 := row_below R1d hb3 hz0d; obtain ⟨z3, y0, y1, y2, y3, y4, y5⟩ := row_one R3; have X4 := cell_off6 X3.2 (b := w.heap.size + 1) (by show w.heap.size + 1 ≠ w.heap.size + 2; omega) (.int .i64 (pn0 m : Int)) (.int .i64 (s : Int)) (.int .i64 (t : Int)) (.int .i64 (d : Int)) (.int .i64 (h : Int)) (.int .u32 (i : Int))))
  all_goals
    go_wp2
    have hb9 := below_then hb0d hb3 (Nat.le_refl _)
    refine bodyPost_ret (v := .agg #[.int .i64 ((pn0 m : Int)), .int .i64 ((s : Int)), .int .i64 ((t : Int)), .int .i64 ((d : Int)), .int .i64 ((h : Int)), .int .u32 ((i : Int))]) (by simp [results, Try.results11, go_sem, y0, y1, y2, y3, y4, y5]) rfl ⟨m, m1, s, t, d, h, i, rfl, l1, l2, l3, l4, l5, ?_⟩
    (repeat' (first | (with_reducible exact hb9) | (with_reducible apply bel_set) | (with_reducible apply bel_alloc) | (with_reducible apply below_drewN) | (simp; done) | (simp; omega) | omega | (simp [World.setCell]; done) | (simp [World.setCell]; omega)))
theorem plain_i_any (K S T E G I R : Int) (w : World) (hx : Hid (InX K S T E G I R)) : Calls Try.prog 11 #[.agg #[.int .i64 K, .int .i64 S, .int .i64 T, .int .i64 E, .int .i64 G, .int .u32 I, .int .u32 R]] w (AnyP w) :=
  (plain_p_any K S T E G I R w hx).mono fun e w' ⟨m, m1, h⟩ => ⟨pn0 m, (pn0_r m m1).1, (pn0_r m m1).2, h⟩
end Go.Proofs.Ytmjlbffphaklgaa
