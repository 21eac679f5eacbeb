/-
  Chapter 2: both memories, played side by side by any calls (function 'play'), and the walk of RamPlays.
-/
import Derived.Test.YtfpddhpacfcfmaaDo
namespace Go.Proofs.Ytfpddhpacfcfmaa
open Go.RowKit
set_option linter.unusedVariables false

/-- the cells of a slice of calls, as the walk asks for them -/
def Asks (w : World) (B : Nat) (a : Option Addr) (len : Nat) : Prop :=
  ∀ i, i < len → ∃ (b o : Nat) (kd n pg at_ v : Int) (bv : Value) (N : Nat) (f : Nat → Int), a = some ⟨b, o, none⟩ ∧ b < B ∧
    w.cell? ⟨b, o + i * 6, none⟩ = some (.int .i64 kd) ∧ w.cell? ⟨b, o + i * 6 + 1, none⟩ = some (.int .i64 n) ∧ w.cell? ⟨b, o + i * 6 + 2, none⟩ = some (.int .i64 pg) ∧
    w.cell? ⟨b, o + i * 6 + 3, none⟩ = some (.int .u32 at_) ∧ w.cell? ⟨b, o + i * 6 + 4, none⟩ = some (.int .u32 v) ∧ w.cell? ⟨b, o + i * 6 + 5, none⟩ = some bv ∧
    ByAt (fun k => k < B) w bv N f ∧ N ≤ 9223372036854775807 ∧ -9223372036854775808 ≤ kd ∧ kd ≤ 9223372036854775807 ∧ -9223372036854775808 ≤ n ∧ n ≤ 9223372036854775807 ∧ -9223372036854775808 ≤ pg ∧ pg ≤ 9223372036854775807 ∧
    0 ≤ at_ ∧ at_ < 4294967296 ∧ 0 ≤ v ∧ v < 4294967296

theorem byAt_slice {Q : Nat → Prop} {w : World} {v : Value} {n : Nat} {f : Nat → Int} (h : ByAt Q w v n f) : ∃ A c, v = .slice A n c := by
  rcases h with ⟨c, rfl, rfl⟩ | ⟨ad, c, rfl, _⟩
  · exact ⟨_, _, rfl⟩
  · exact ⟨_, _, rfl⟩
theorem below_two {B S : Nat} {w w1 w2 w0 : World} {g b m t g' b' m' t' p : Nat} {C : Nat → Int} {M D : Nat → Bool} (h : Two B S w0 g b m t g' b' m' t' p C M D) (hb : Below B w w1) (f : Fr (Own2 b m t b' m' t') w1 w2) (hB : B ≤ w.heap.size := by exact Nat.le_refl _) : Below B w w2 := by
  have := h.b0; have := h.m0; have := h.t0; have := h.b2; have := h.m2; have := h.t2; have := h.g0; have := h.g1
  exact hb.trans (f.below (Nat.le_trans hB hb.size) (by rintro k hk ((e | e | e) | (e | e | e)) <;> omega))
theorem ask_at {w : World} {X : Nat} {kd n pg a v : Int} {bv : Value} (h : w.rowIs X 26 6 (askF kd n pg a v bv)) (a2 : Int) : (w.setCell ⟨X, 3, none⟩ (.int .u32 a2)).rowIs X 26 6 (askF kd n pg a2 v bv) :=
  (h.set 3 _).congr fun i hi => by
    have : i = 0 ∨ i = 1 ∨ i = 2 ∨ i = 3 ∨ i = 4 ∨ i = 5 := by omega
    rcases this with rfl | rfl | rfl | rfl | rfl | rfl <;> rfl
theorem ask_n {w : World} {X : Nat} {kd n pg a v : Int} {bv : Value} (h : w.rowIs X 26 6 (askF kd n pg a v bv)) (n2 : Int) : (w.setCell ⟨X, 1, none⟩ (.int .i64 n2)).rowIs X 26 6 (askF kd n2 pg a v bv) :=
  (h.set 1 _).congr fun i hi => by
    have : i = 0 ∨ i = 1 ∨ i = 2 ∨ i = 3 ∨ i = 4 ∨ i = 5 := by omega
    rcases this with rfl | rfl | rfl | rfl | rfl | rfl <;> rfl
theorem ask_pg {w : World} {X : Nat} {kd n pg a v : Int} {bv : Value} (h : w.rowIs X 26 6 (askF kd n pg a v bv)) (p2 : Int) : (w.setCell ⟨X, 2, none⟩ (.int .i64 p2)).rowIs X 26 6 (askF kd n p2 a v bv) :=
  (h.set 2 _).congr fun i hi => by
    have : i = 0 ∨ i = 1 ∨ i = 2 ∨ i = 3 ∨ i = 4 ∨ i = 5 := by omega
    rcases this with rfl | rfl | rfl | rfl | rfl | rfl <;> rfl
theorem two_far {B S : Nat} {w : World} {g b m t g' b' m' t' p x : Nat} {C : Nat → Int} {M D : Nat → Bool} (h : Two B S w g b m t g' b' m' t' p C M D) (u : Value) (o : Nat) (r0 : g < x) (r1 : b < x) (r2 : m < x) (r3 : t < x) (r4 : g' < x) (r5 : b' < x) (r6 : m' < x) (r7 : t' < x) :
    Two B S (w.setCell ⟨x, o, none⟩ u) g b m t g' b' m' t' p C M D := by
  have f := (Fr.refl (fun k => k = x) w).setCell (x := ⟨x, o, none⟩) (.inl rfl) u
  exact { h with r := h.r.keep f (by omega) (by omega) (by omega) (by omega), q := h.q.keep f (by omega) (by omega) (by omega) (by omega) }
theorem byAt_far {B : Nat} {w : World} {v : Value} {n x : Nat} {f : Nat → Int} (h : ByAt (fun k => k < B) w v n f) (u : Value) (o : Nat) (hx : B ≤ x) : ByAt (fun k => k < B) (w.setCell ⟨x, o, none⟩ u) v n f :=
  h.fr ((Fr.refl (fun k => k = x) w).setCell (x := ⟨x, o, none⟩) (.inl rfl) u) (fun k hk _ => by omega)
theorem pick6 (j : Nat) (h : j < 6) : ∃ y : Int, 0 ≤ y ∧ y ≤ 4 ∧ [Value.int IntKind.i64 1, Value.int IntKind.i64 2, Value.int IntKind.i64 4, Value.int IntKind.i64 3, Value.int IntKind.i64 0, Value.int IntKind.i64 4][j]? = some (.int .i64 y) := by
  have : j = 0 ∨ j = 1 ∨ j = 2 ∨ j = 3 ∨ j = 4 ∨ j = 5 := by omega
  rcases this with rfl | rfl | rfl | rfl | rfl | rfl
  · exact ⟨1, by omega, by omega, rfl⟩
  · exact ⟨2, by omega, by omega, rfl⟩
  · exact ⟨4, by omega, by omega, rfl⟩
  · exact ⟨3, by omega, by omega, rfl⟩
  · exact ⟨0, by omega, by omega, rfl⟩
  · exact ⟨4, by omega, by omega, rfl⟩
theorem byAt_mem {T : TypeId} {w : World} {g b m t p : Nat} {C : Nat → Int} {M D : Nat → Bool} (h : Mem T w g b m t p C M D) : ByAt (fun _ => True) w (.slice (some ⟨b, 0, none⟩) (1024 * p) (1024 * p)) (1024 * p) C :=
  .inr ⟨⟨b, 0, none⟩, 1024 * p, rfl, Nat.le_refl _, fun _ => ⟨rfl, trivial⟩, fun i hi => ⟨by rw [add_none, Nat.zero_add]; exact h.hb.cell hi, h.c0 i, h.c1 i⟩⟩
theorem own_new {B S H : Nat} {w : World} {g b m t g' b' m' t' p : Nat} {C : Nat → Int} {M D : Nat → Bool} (h : Two B S w g b m t g' b' m' t' p C M D) : ∀ k, w.heap.size ≤ k → k < H → ¬ Own b' m' t' k := by
  have := h.q.hb.lt; have := h.q.hm.lt; have := h.q.ht.lt
  rintro k hk _ (e | e | e) <;> omega
theorem sx_of {T : TypeId} {Q : Nat → Prop} {w' : World} {g b m t p : Nat} {C : Nat → Int} {M D : Nat → Bool} {v : Value} {st : ByteArray} (h : Mem T w' g b m t p C M D) (hv : ByAt Q w' v (1024 * p) C) (hs : st = strN (1024 * p) C) :
    w'.cell? ⟨g, 0, none⟩ = some (.slice (some ⟨b, 0, none⟩) (1024 * p) (1024 * p)) ∧ (convert 24 9 v).run Try.prog w' = .ok (.string st) w' ∧ (convert 24 9 (.slice (some ⟨b, 0, none⟩) (1024 * p) (1024 * p))).run Try.prog w' = .ok (.string st) w' := by
  subst hs
  exact ⟨h.cell0, conv_any hv, conv_any (byAt_mem h)⟩
theorem size_int {w : World} {g b m t p : Nat} {C : Nat → Int} {M D : Nat → Bool} (h : Mem 57 w g b m t p C M D) : Calls Try.prog 9 #[.pointer (some ⟨g, 0, none⟩)] w fun e w' => e = .returned (.int .u32 (1024 * (p : Int))) ∧ w = w' :=
  (size_any h).mono fun _ _ ⟨he, hw⟩ => ⟨he.trans (by rw [Int.natCast_mul]; rfl), hw⟩

set_option maxRecDepth 100000 in
set_option maxHeartbeats 4000000 in
theorem play_any (pages : Int) (a : Option Addr) (len cap : Nat) (near : Bool) (w : World) (HA : Hid (Asks w w.heap.size a len)) (hl : len ≤ 9223372036854775807) :
    Calls Try.prog 7 #[.int .i64 pages, .slice a len cap, .bool near] w (TrB w) := by
  go_enter Try.func7, Try.ntmps7
  go_wp2_with fail
  refine (new_any pages w).mono ?_
  rintro e w1 ⟨g, b, m, t, rfl, lg, lb, lm, lt, hm1, hb1⟩
  go_wp2_with fail
  refine (rnew_any pages w1).mono ?_
  rintro e w2 ⟨g', b', m', t', rfl, lg', lb', lm', lt', hm2, hb2⟩
  obtain ⟨p, HP⟩ : ∃ p, Hid (clampP pages = p) := ⟨_, rfl⟩
  rw [HP.out] at hm1 hm2
  have hr2 := hm1.keep (Fr.of_below (S := fun _ => False) hb2) id id id id
  have hT : Two w.heap.size w1.heap.size w2 g b m t g' b' m' t' p (fun _ => 0) (fun _ => false) (fun _ => false) := { r := hr2, q := hm2, g0 := lg, b0 := lb, m0 := lm, t0 := lt, g1 := hm1.st.lt, b1 := hm1.hb.lt, m1 := hm1.hm.lt, t1 := hm1.ht.lt, g2 := lg', b2 := lb', m2 := lm', t2 := lt' }
  have hB : Below w.heap.size w w2 := hb1.trans (hb2.mono hb1.size)
  have c0 := hT.q.cell0
  have p2 := hT.q.p2
  clear hm1 hm2 hr2 hb1 hb2 lg lb lm lt lg' lb' lm' lt'
  go_wp2_with fail
  go_quiet ((go_at_call 9; exact (size_int (hT.r.drewN _)).mono fun _ _ h => ⟨h.1, _, h.2.symm⟩))
  go_wp2_with fail
  go_loopw [9] (fun i wr => ∃ (k : Nat) (C : Nat → Int) (M D : Nat → Bool), k ≤ 80 ∧ k ≤ len ∧ i = .int .i64 k ∧ Two w.heap.size w1.heap.size wr g b m t g' b' m' t' p C M D ∧ Below w.heap.size w wr) (fun i _ => 80 - (intOf i).toNat)
  case atStart => exact ⟨0, _, _, _, by omega, by omega, rfl, hT.drewN _, below_drewN hB _⟩
  case round =>
    clear hT hB
    obtain ⟨k, C, M, D, hk, hkl, rfl, hT, hB⟩ := hrel
    by_cases hlt : k < 80 ∧ k < len
    · obtain ⟨x0, x1⟩ := hlt
      obtain ⟨ab, ao, kd, n, pg, at_, v, bv, N, f, rfl, hab, q0, q1, q2, q3, q4, q5, hbv, hN, k0, k1, n0, n1, g0, g1, a0, a1, v0, v1⟩ := HA.out k x1
      have e0 := (hB.cell (p := ⟨ab, ao + k * 6, none⟩) hab).trans q0
      have e1 := (hB.cell (p := ⟨ab, ao + k * 6 + 1, none⟩) hab).trans q1
      have e2 := (hB.cell (p := ⟨ab, ao + k * 6 + 2, none⟩) hab).trans q2
      have e3 := (hB.cell (p := ⟨ab, ao + k * 6 + 3, none⟩) hab).trans q3
      have e4 := (hB.cell (p := ⟨ab, ao + k * 6 + 4, none⟩) hab).trans q4
      have e5 := (hB.cell (p := ⟨ab, ao + k * 6 + 5, none⟩) hab).trans q5
      clear q0 q1 q2 q3 q4 q5
      have hbw := byAt_below hbv hB
      clear hbv
      have z80 : (k : Int) < 80 := by omega
      obtain ⟨bA, bc, rfl⟩ := byAt_slice hbw
      have hsz := hB.size
      cases near
      · go_wp2_with fail
        refine (do_any _ _ _ _ _ _ N f (hT.keep ((Fr.refl (fun _ => False) _).alloc _) (fun _ _ _ => id)) (hbw.fr ((Fr.refl (fun _ => False) _).alloc _) (fun _ _ _ => id)) hN n0 n1 a0 a1 v0 v1).mono ?_
        rintro e w3 ⟨rfl, ⟨C3, M3, D3, hT3⟩, hf3⟩
        have hB3 := below_two hT (hB.alloc hsz _) hf3
        go_wp2_with fail
        go_roundw
        case rel => exact ⟨k + 1, C3, M3, D3, by omega, by omega, by go_num, hT3, hB3⟩
        case measure => simp [intOf]; omega
      · go_wp2_with fail
        have hx0 := ask_row wr kd n pg at_ v (.slice bA N bc)
        have hT0 := hT.keep ((Fr.refl (fun _ => False) wr).alloc (.cells #[.int .i64 kd, .int .i64 n, .int .i64 pg, .int .u32 at_, .int .u32 v, .slice bA N bc] 26)) (fun _ _ _ => id)
        have hb0 := hbw.fr ((Fr.refl (fun _ => False) wr).alloc (.cells #[.int .i64 kd, .int .i64 n, .int .i64 pg, .int .u32 at_, .int .u32 v, .slice bA N bc] 26)) (fun _ _ _ => id)
        have hB0 := hB.alloc hsz (.cells #[.int .i64 kd, .int .i64 n, .int .i64 pg, .int .u32 at_, .int .u32 v, .slice bA N bc] 26)
        have r0 := hT.r.st.lt; have r1 := hT.r.hb.lt; have r2 := hT.r.hm.lt; have r3 := hT.r.ht.lt; have r4 := hT.q.st.lt; have r5 := hT.q.hb.lt; have r6 := hT.q.hm.lt; have r7 := hT.q.ht.lt
        clear hT hbw hB e0 e1 e2 e3 e4 e5 c0
        generalize wr.alloc (.cells #[.int .i64 kd, .int .i64 n, .int .i64 pg, .int .u32 at_, .int .u32 v, .slice bA N bc] 26) = W0 at hx0 hT0 hb0 hB0 ⊢
        have x3 := hx0.cell (i := 3) (by omega)
        have z3 := hx0.frozen 3
        simp only [askF] at x3
        have hT0d := hT0.drewN 1
        have p1 := hT0.r.p1
        have hw1 : IntKind.u32.wrap (1024 * (p : Int) + 8) = 1024 * (p : Int) + 8 := by rw [IntKind.wrap_u32']; omega
        have hw2 : (1024 * (p : Int) + 8 == 0) = false := by simp; omega
        have hw3 : ¬ (1024 * (p : Int) + 8 = 0) := by omega
        go_region_with (go_at_call 9; refine (size_int hT0d.r).mono ?_; rintro e w' ⟨rfl, rfl⟩)
        all_goals
          have hz3 : ¬ Own b m t wr.heap.size ∧ ¬ Own b' m' t' wr.heap.size ∧ wr.heap.size ≠ g ∧ wr.heap.size ≠ g' := ⟨by rintro (e | e | e) <;> omega, by rintro (e | e | e) <;> omega, by omega, by omega⟩
          obtain ⟨a2, HA2⟩ : ∃ a2, Hid (a2 = at_.tmod (1024 * (p : Int) + 8)) := ⟨_, rfl⟩
          rw [← HA2.out]
          have a20 : 0 ≤ a2 := by rw [HA2.out]; exact Int.tmod_nonneg _ a0
          have a21 : a2 < 4294967296 := by rw [HA2.out]; have := tmod_pos at_ (1024 * (p : Int) + 8) (by omega); omega
          have hx1 := ask_at (row_drewN hx0 1) a2
          have hT1 := two_far hT0d (.int .u32 a2) 3 (x := wr.heap.size) r0 r1 r2 r3 r4 r5 r6 r7
          have hb1 := byAt_far (hb0.drewN 1) (.int .u32 a2) 3 (x := wr.heap.size) hsz
          have hB1 := (below_drewN hB0 1).setCell (p := ⟨wr.heap.size, 3, none⟩) hsz (.int .u32 a2)
          generalize (W0.drewN 1).setCell ⟨wr.heap.size, 3, none⟩ (.int .u32 a2) = W1 at hx1 hT1 hb1 hB1 ⊢
          clear hx0 hT0 hT0d hb0 hB0 x3 z3 hw1 hw2 hw3
          have x1' := hx1.cell (i := 1) (by omega)
          have z1' := hx1.frozen 1
          simp only [askF] at x1'
          have hxl := hx1.lt
          go_wp2_with fail
          refine (within_any n 0 1048576 _ (by omega) (by omega) (by omega) (by omega) (by omega)).mono ?_
          rintro e w5 ⟨vi, vi0, vi1, rfl, rfl⟩
          obtain ⟨y, y0, y1, hpick⟩ := pick6 (vi % 6).toNat (by omega)
          go_wp2_with fail
          clear hpick
          have hx2 := (ask_n hx1 y).alloc (.cells #[.int .i64 1, .int .i64 2, .int .i64 4, .int .i64 3, .int .i64 0, .int .i64 4] 3)
          have hT2 := (two_far hT1 (.int .i64 y) 1 (x := wr.heap.size) r0 r1 r2 r3 r4 r5 r6 r7).keep ((Fr.refl (fun _ => False) _).alloc (.cells #[.int .i64 1, .int .i64 2, .int .i64 4, .int .i64 3, .int .i64 0, .int .i64 4] 3)) (fun _ _ _ => id)
          have hb2 := (byAt_far hb1 (.int .i64 y) 1 (x := wr.heap.size) hsz).fr ((Fr.refl (fun _ => False) _).alloc (.cells #[.int .i64 1, .int .i64 2, .int .i64 4, .int .i64 3, .int .i64 0, .int .i64 4] 3)) (fun _ _ _ => id)
          have hB2 := (hB1.setCell (p := ⟨wr.heap.size, 1, none⟩) hsz (.int .i64 y)).alloc (by simp [World.setCell]; omega) (.cells #[.int .i64 1, .int .i64 2, .int .i64 4, .int .i64 3, .int .i64 0, .int .i64 4] 3)
          generalize (W1.setCell ⟨wr.heap.size, 1, none⟩ (.int .i64 y)).alloc (.cells #[.int .i64 1, .int .i64 2, .int .i64 4, .int .i64 3, .int .i64 0, .int .i64 4] 3) = W2 at hx2 hT2 hb2 hB2 ⊢
          clear hx1 hT1 hb1 hB1 x1' z1' hxl
          have x2' := hx2.cell (i := 2) (by omega)
          have z2' := hx2.frozen 2
          simp only [askF] at x2'
          have c1 := hT2.q.cell1
          have p1' := hT2.q.p1
          go_region_with (go_at_call 11; refine (within_any pg (-1) p (W2.drewN 1) (by omega) (by omega) (by omega) (by omega) (by omega)).mono ?_; rintro e w' ⟨vp, vp0, vp1, rfl, rfl⟩)
          all_goals
            have hx3 := ask_pg (row_drewN hx2 1) vp
            have hT3 := two_far (hT2.drewN 1) (.int .i64 vp) 2 (x := wr.heap.size) r0 r1 r2 r3 r4 r5 r6 r7
            have hb3 := byAt_far (hb2.drewN 1) (.int .i64 vp) 2 (x := wr.heap.size) hsz
            have hB3 := (below_drewN hB2 1).setCell (p := ⟨wr.heap.size, 2, none⟩) hsz (.int .i64 vp)
            generalize (W2.drewN 1).setCell ⟨wr.heap.size, 2, none⟩ (.int .i64 vp) = W3 at hx3 hT3 hb3 hB3 ⊢
            clear hx2 hT2 hb2 hB2 x2' z2' c1
            have d0 := hx3.cell (i := 0) (by omega)
            have d1 := hx3.cell (i := 1) (by omega)
            have d2 := hx3.cell (i := 2) (by omega)
            have d3 := hx3.cell (i := 3) (by omega)
            have d4 := hx3.cell (i := 4) (by omega)
            have d5 := hx3.cell (i := 5) (by omega)
            simp only [askF] at d0 d1 d2 d3 d4 d5
            go_wp2_with fail
            refine (do_any _ _ _ _ _ _ N f hT3 hb3 hN (by omega) (by omega) a20 a21 v0 v1).mono ?_
            rintro e w6 ⟨rfl, ⟨C3, M3, D3, hT6⟩, hf6⟩
            have hB6 := below_two hT3 hB3 hf6
            go_wp2_with fail
            go_roundw
            case rel => exact ⟨k + 1, C3, M3, D3, by omega, by omega, by go_num, hT6, hB6⟩
            case measure => simp [intOf]; omega
    · by_cases hx : k < len
      all_goals
        try (have hd : decide ((k : Int) < 80) = false := by simp; omega)
        clear hlt
        have c0' := hT.q.cell0
        go_wp2_with fail
        refine (bytes_any 0 _ hT.r (by omega) (by omega) (by omega) (by omega)).mono ?_
        rintro e w3 ⟨v3, rfl, hv3, hf3⟩
        have e3 : inB p 0 (1024 * (p : Int)) = true := by simp [inB]; omega
        have e4 : cnt p 0 (1024 * (p : Int)) = 1024 * p := by unfold cnt; rw [e3]; show (1024 * (p : Int)).toNat = 1024 * p; omega
        rw [e4] at hv3
        rw [e3]
        have hT3 := hT.keep hf3 (fun _ _ _ => id)
        have hB3 := hB.trans (hf3.below hB.size (fun _ _ => id))
        have hv3' := byAt_congr (f' := C) hv3 (fun i _ => by simp)
        have hc3 : (convert 24 9 v3).run Try.prog w3.drew = .ok (.string (strN (1024 * p) C)) w3.drew := conv_any (hv3'.drewN 1)
        have hc4 : (convert 24 9 (.slice (some ⟨b', 0, none⟩) (1024 * p) (1024 * p))).run Try.prog w3.drew = .ok (.string (strN (1024 * p) C)) w3.drew := conv_any (Q := fun _ => True) (byAt_mem (hT3.q.drewN 1))
        have c4 := hT3.q.cell0
        have hT4 := hT3.drewN 1
        obtain ⟨st, HS⟩ : ∃ st, Hid (st = strN (1024 * p) C) := ⟨_, rfl⟩
        rw [← HS.out] at hc3 hc4
        have hv4 := hv3'.drewN 1
        have l1 := hT.r.hb.lt; have l2 := hT.r.hm.lt; have l3 := hT.r.ht.lt; have l4 := hT.q.hb.lt; have l5 := hT.q.hm.lt; have l6 := hT.q.ht.lt
        clear hv3 hv3' e3 e4
        go_wp2_with fail
        go_region_held3 (fun w' => w'.cell? ⟨g', 0, none⟩ = some (.slice (some ⟨b', 0, none⟩) (1024 * p) (1024 * p)) ∧ (convert 24 9 v3).run Try.prog w' = .ok (.string st) w' ∧ (convert 24 9 (.slice (some ⟨b', 0, none⟩) (1024 * p) (1024 * p))).run Try.prog w' = .ok (.string st) w')
          (first | exact ⟨c4, hc3, hc4⟩ | exact hk5 | exact hk6 | exact hk7)
          (first
          | (go_at_call 19; refine (written_any hT4.r).mono ?_; rintro e w5 ⟨v5, rfl, ho5, hm5, hf5⟩; have hq5 := hT4.left hm5 hf5; have hv5 := hv4.fr hf5 (by rintro k h1 h2 (e | e | e) <;> omega); have hk5 := sx_of hq5 hv5 HS.out)
          | (go_at_call 22; refine (rwritten_any hq5).mono ?_; rintro e w6 ⟨v6, rfl, ho6, hq6, hf6⟩; have hT6 := hT4.right hm5 hq6 hf6; have hv6 := hv5.fr hf6 (by rintro k h1 h2 (e | e | e) <;> omega); have hk6 := sx_of hq6 hv6 HS.out; have hxx := IntsAt.of_own (IntsAt.fr ho5 hf6 (own_new hT4)))
          | (go_at_call 18; refine (same_any _ _ _ _ hxx (IntsAt.of_own ho6) (by have := wl_len D p; omega)).mono ?_; rintro e w7 ⟨rfl, n7, rfl⟩; have hk7 := sx_of (hq6.drewN n7) (hv6.drewN n7) HS.out))
        all_goals
          go_wp2
          go_ret
          exact ⟨rfl, below_drewN (below_two hT4 (below_drewN hB3 1) ((hf5.mono fun _ e => .inl e).trans (hf6.mono fun _ e => .inr e))) _⟩
end Go.Proofs.Ytfpddhpacfcfmaa
