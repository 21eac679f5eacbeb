/-
  Chapter 2: one call of both memories, the program's and the document's: they answer the same, and stay the same (function 'do').
-/
import Derived.Test.YtfpddhpacfcfmaaRBytes
import Derived.Deep.DeepCutAuto
import Derived.Deep.CutBlock
import Derived.Deep.RegionHeld3
import Derived.Deep.RegionWith
namespace Go.Proofs.Ytfpddhpacfcfmaa
open Go.RowKit
set_option linter.unusedVariables false

/-- both memories are the same; the first one's blocks lie below S, the second one's from S on, all from B on -/
structure Two (B S : Nat) (w : World) (g b m t g' b' m' t' p : Nat) (C : Nat → Int) (M D : Nat → Bool) : Prop where
  r : Mem 57 w g b m t p C M D
  q : Mem 54 w g' b' m' t' p C M D
  g0 : B ≤ g
  b0 : B ≤ b
  m0 : B ≤ m
  t0 : B ≤ t
  g1 : g < S
  b1 : b < S
  m1 : m < S
  t1 : t < S
  g2 : S ≤ g'
  b2 : S ≤ b'
  m2 : S ≤ m'
  t2 : S ≤ t'
def Own2 (b m t b' m' t' : Nat) (k : Nat) : Prop := Own b m t k ∨ Own b' m' t' k
section
variable {B S : Nat} {w w' : World} {g b m t g' b' m' t' p : Nat} {C C' : Nat → Int} {M D M' D' : Nat → Bool}
theorem Two.left (h : Two B S w g b m t g' b' m' t' p C M D) (hm : Mem 57 w' g b m t p C' M' D') (hf : Fr (Own b m t) w w') : Mem 54 w' g' b' m' t' p C M D := by
  have := h.b1; have := h.m1; have := h.t1; have := h.g2; have := h.b2; have := h.m2; have := h.t2
  exact h.q.keep hf (by rintro (e | e | e) <;> omega) (by rintro (e | e | e) <;> omega) (by rintro (e | e | e) <;> omega) (by rintro (e | e | e) <;> omega)
theorem Two.right {w2 : World} (h : Two B S w g b m t g' b' m' t' p C M D) (hm : Mem 57 w2 g b m t p C' M' D') (hq : Mem 54 w' g' b' m' t' p C' M' D') (hf : Fr (Own b' m' t') w2 w') : Two B S w' g b m t g' b' m' t' p C' M' D' := by
  have e1 := h.b1; have e2 := h.m1; have e3 := h.t1; have e0 := h.g1; have := h.g2; have := h.b2; have := h.m2; have := h.t2
  exact { h with r := hm.keep hf (by rintro (e | e | e) <;> omega) (by rintro (e | e | e) <;> omega) (by rintro (e | e | e) <;> omega) (by rintro (e | e | e) <;> omega), q := hq }
theorem Two.keep {Q : Nat → Prop} (h : Two B S w g b m t g' b' m' t' p C M D) (hf : Fr Q w w') (hq : ∀ k, B ≤ k → k < w.heap.size → ¬ Q k) : Two B S w' g b m t g' b' m' t' p C M D :=
  { h with
    r := h.r.keep hf (hq _ h.g0 h.r.st.lt) (hq _ h.b0 h.r.hb.lt) (hq _ h.m0 h.r.hm.lt) (hq _ h.t0 h.r.ht.lt)
    q := h.q.keep hf (hq _ (by have := h.g0; have := h.g1; have := h.g2; omega) h.q.st.lt) (hq _ (by have := h.g0; have := h.g1; have := h.b2; omega) h.q.hb.lt) (hq _ (by have := h.g0; have := h.g1; have := h.m2; omega) h.q.hm.lt) (hq _ (by have := h.g0; have := h.g1; have := h.t2; omega) h.q.ht.lt) }
end
theorem Two.drewN {B S : Nat} {w : World} {g b m t g' b' m' t' p : Nat} {C : Nat → Int} {M D : Nat → Bool} (h : Two B S w g b m t g' b' m' t' p C M D) (n : Nat) : Two B S (w.drewN n) g b m t g' b' m' t' p C M D := { h with r := h.r.drewN n, q := h.q.drewN n }
theorem marked_out {w : World} {g b m t p : Nat} {k : Int} {C : Nat → Int} {M D : Nat → Bool} (hk : isP p k = false) (h : Mem 57 w g b m t p C M D) :
    Calls Try.prog 17 #[.pointer (some ⟨g, 0, none⟩), .int .i64 k] w fun e w' => e = .returned (.bool false) ∧ w = w' := by
  have e : mkAt p M k = false := by unfold mkAt; rw [hk]; rfl
  rw [← e]
  exact marked_any _ h
/-- a call, as a value -/
def askV (kd n pg a v : Int) (bv : Value) : Value := .agg #[.int .i64 kd, .int .i64 n, .int .i64 pg, .int .u32 a, .int .u32 v, bv]
/-- its cells -/
def askF (kd n pg a v : Int) (bv : Value) : Nat → Value
  | 0 => .int .i64 kd
  | 1 => .int .i64 n
  | 2 => .int .i64 pg
  | 3 => .int .u32 a
  | 4 => .int .u32 v
  | _ => bv

theorem ask_row (w : World) (kd n pg a v : Int) (bv : Value) : (w.alloc (.cells #[.int .i64 kd, .int .i64 n, .int .i64 pg, .int .u32 a, .int .u32 v, bv] 26)).rowIs w.heap.size 26 6 (askF kd n pg a v bv) :=
  World.rowIs_alloc w _ _ _ fun i hi => by
    have : i = 0 ∨ i = 1 ∨ i = 2 ∨ i = 3 ∨ i = 4 ∨ i = 5 := by have : i < 6 := hi; omega
    rcases this with rfl | rfl | rfl | rfl | rfl | rfl <;> rfl
theorem cell_fr {S : Nat → Prop} {w w' : World} {a : Addr} {v : Value} (f : Fr S w w') (h : w.cell? a = some v) (hs : ¬ S a.block) : w'.cell? a = some v := (World.cell?_of_block (f.block _ (block_lt_of_cell h) hs)).trans h
theorem row_drewN {w : World} {X T n : Nat} {F : Nat → Value} (h : w.rowIs X T n F) (k : Nat) : (w.drewN k).rowIs X T n F := h
theorem row_own2 {w1 w2 w3 : World} {b m t b' m' t' X T n : Nat} {F : Nat → Value} (h : w1.rowIs X T n F) (f : Fr (Own b m t) w1 w2) (f' : Fr (Own b' m' t') w2 w3) (hX : ¬ Own b m t X ∧ ¬ Own b' m' t' X) : w3.rowIs X T n F :=
  (h.of_block (f.block _ h.lt hX.1)).of_block (f'.block _ (h.of_block (f.block _ h.lt hX.1)).lt hX.2)
theorem ByAt.drewN {Q : Nat → Prop} {w : World} {v : Value} {n : Nat} {f : Nat → Int} (h : ByAt Q w v n f) (k : Nat) : ByAt Q (w.drewN k) v n f := h
theorem byAt_cut {Q : Nat → Prop} {w : World} {ad : Addr} {c m n : Nat} {f : Nat → Int} (h : ByAt Q w (.slice (some ad) m c) m f) (hn : n ≤ m) : ByAt Q w (.slice (some ad) n c) n f := by
  rcases h with ⟨c', h, _⟩ | ⟨ad', c', hv, hc, hq, hi⟩
  · cases h
  · injection hv with e1 e2 e3
    injection e1 with e1
    subst e1 e3
    exact .inr ⟨ad, c, rfl, by omega, fun hp => hq (by omega), fun i hi' => hi i (by omega)⟩
def DoP (B S : Nat) (w : World) (g b m t g' b' m' t' p : Nat) (e : Ending) (w' : World) : Prop :=
  e = .returned (.bool true) ∧ (∃ C M D, Two B S w' g b m t g' b' m' t' p C M D) ∧ Fr (Own2 b m t b' m' t') w w'
section
variable {B S : Nat} {w : World} {g b m t g' b' m' t' p : Nat} {C : Nat → Int} {M D : Nat → Bool}
set_option maxRecDepth 100000 in
set_option maxHeartbeats 4000000 in
theorem do_any (kd n pg a v : Int) (bv : Value) (N : Nat) (f : Nat → Int) (h : Two B S w g b m t g' b' m' t' p C M D) (hb : ByAt (fun k => k < B) w bv N f) (hN : N ≤ 9223372036854775807)
    (n0 : -9223372036854775808 ≤ n) (n1 : n ≤ 9223372036854775807) (a0 : 0 ≤ a) (a1 : a < 4294967296) (v0 : 0 ≤ v) (v1 : v < 4294967296) :
    Calls Try.prog 21 #[.pointer (some ⟨g, 0, none⟩), .pointer (some ⟨g', 0, none⟩), .agg #[.int .i64 kd, .int .i64 n, .int .i64 pg, .int .u32 a, .int .u32 v, bv]] w (DoP B S w g b m t g' b' m' t' p) := by
  go_enter Try.func21, Try.ntmps21
  go_upto_block 0 with fail
  go_cut [5] (fun s5 wc => s5 = .pointer (some ⟨w.heap.size, 0, none⟩) ∧ ∃ C M D, Two B S wc g b m t g' b' m' t' p C M D ∧ wc.rowIs w.heap.size 26 6 (askF kd n pg a v bv) ∧ Fr (Own2 b m t b' m' t') w wc)
  case first =>
    have hx0 := ask_row w kd n pg a v bv
    have h0 := h.keep ((Fr.refl (fun _ => False) w).alloc (.cells #[.int .i64 kd, .int .i64 n, .int .i64 pg, .int .u32 a, .int .u32 v, bv] 26)) (fun _ _ _ => id)
    have hf0 := (Fr.refl (Own2 b m t b' m' t') w).alloc (.cells #[.int .i64 kd, .int .i64 n, .int .i64 pg, .int .u32 a, .int .u32 v, bv] 26)
    have hb0 := hb.fr ((Fr.refl (fun _ => False) w).alloc (.cells #[.int .i64 kd, .int .i64 n, .int .i64 pg, .int .u32 a, .int .u32 v, bv] 26)) (fun _ _ _ => id)
    have lX : B ≤ w.heap.size := Nat.le_trans h.g0 (Nat.le_of_lt h.r.st.lt)
    have r1 := h.r.hb.lt
    have r2 := h.r.hm.lt
    have r3 := h.r.ht.lt
    have r4 := h.q.hb.lt
    have r5 := h.q.hm.lt
    have r6 := h.q.ht.lt
    clear h hb
    generalize w.alloc (.cells #[.int .i64 kd, .int .i64 n, .int .i64 pg, .int .u32 a, .int .u32 v, bv] 26) = W0 at hx0 h0 hf0 hb0 ⊢
    have hXo : ¬ Own b m t w.heap.size ∧ ¬ Own b' m' t' w.heap.size := ⟨by rintro (e | e | e) <;> omega, by rintro (e | e | e) <;> omega⟩
    have h0d := h0.drewN 1
    have x1 := hx0.cell (i := 1) (by omega)
    have x2 := hx0.cell (i := 2) (by omega)
    have x3 := hx0.cell (i := 3) (by omega)
    have x4 := hx0.cell (i := 4) (by omega)
    have x5 := hx0.cell (i := 5) (by omega)
    simp only [askF] at x1 x2 x3 x4 x5
    by_cases k0 : kd = 0 ∨ kd = 1
    · rcases k0 with rfl | rfl
      all_goals
        go_wp2_with fail
        go_region_held3 (fun w' => w'.cell? ⟨w.heap.size, 1, none⟩ = some (.int .i64 n) ∧ w'.cell? ⟨w.heap.size, 3, none⟩ = some (.int .u32 a) ∧ w'.cell? ⟨w.heap.size, 4, none⟩ = some (.int .u32 v)) (first | exact ⟨x1, x3, x4⟩ | exact ⟨y1, y3, y4⟩ | exact ⟨z1, z3, z4⟩)
          (first
            | (go_at_call 12; refine (store_any a n v h0d.r a0 a1 n0 n1 v0 v1).mono ?_; rintro e w2 ⟨rfl, hm2, hf2⟩; have hq2 := h0d.left hm2 hf2; have y1 := cell_fr hf2 x1 hXo.1; have y3 := cell_fr hf2 x3 hXo.1; have y4 := cell_fr hf2 x4 hXo.1)
            | (go_at_call 27; refine (rstore_any a n v hq2 a0 a1 n0 n1 v0 v1).mono ?_; rintro e w3 ⟨rfl, hq3, hf3⟩; have z1 := cell_fr hf3 y1 hXo.2; have z3 := cell_fr hf3 y3 hXo.2; have z4 := cell_fr hf3 y4 hXo.2))
        go_wp2_with fail
        go_meet
        exact ⟨rfl, _, _, _, h0d.right hm2 hq3 hf3, row_own2 (row_drewN hx0 1) hf2 hf3 hXo, (hf0.drew.trans (hf2.mono fun _ e => .inl e)).trans (hf3.mono fun _ e => .inr e)⟩
    · have k00 : (kd == 0) = false := by simp; omega
      have k01 : (kd == 1) = false := by simp; omega
      clear k0
      by_cases k4 : kd = 4
      · subst k4
        clear k00 k01
        have q1 := h0.b0; have q2 := h0.m0; have q3 := h0.t0; have q4 := h0.b2; have q5 := h0.m2; have q6 := h0.t2; have q7 := h0.g1; have q8 := h0.g0
        have hBo : (∀ k, k < B → k < (W0.drewN 1).heap.size → ¬ Own b m t k) ∧ (∀ k, k < B → k < (W0.drewN 1).heap.size → ¬ Own b' m' t' k) := ⟨by rintro k e1 e2 (e | e | e) <;> omega, by rintro k e1 e2 (e | e | e) <;> omega⟩
        have HB := Lib.hid hb0
        rcases hb0 with ⟨c, rfl, rfl⟩ | ⟨ad, c, rfl, hc, hq, hcell⟩
        · have hbd := HB.out.drewN 1
          clear q1 q2 q3 q4 q5 q6 q7 q8
          go_wp2_with fail
          go_region_held3 (fun w' => w'.cell? ⟨w.heap.size, 3, none⟩ = some (.int .u32 a)) (first | exact x3 | exact y3 | exact z3)
            (first
              | (go_at_call 15; refine (put_any a _ 0 f h0d.r hbd a0 a1 (by omega)).mono ?_; rintro e w2 ⟨rfl, hm2, hf2⟩; have hq2 := h0d.left hm2 hf2; have y3 := cell_fr hf2 x3 hXo.1; have hb2 := ByAt.fr hbd hf2 hBo.1)
              | (go_at_call 28; refine (rput_any a _ 0 f hq2 hb2 a0 a1 (by omega)).mono ?_; rintro e w3 ⟨rfl, hq3, hf3⟩; have z3 := cell_fr hf3 y3 hXo.2))
          go_wp2_with fail
          go_meet
          exact ⟨rfl, _, _, _, h0d.right hm2 hq3 hf3, row_own2 (row_drewN hx0 1) hf2 hf3 hXo, (hf0.drew.trans (hf2.mono fun _ e => .inl e)).trans (hf3.mono fun _ e => .inr e)⟩
        · clear hq hcell q1 q2 q3 q4 q5 q6 q7 q8
          by_cases hL : N ≤ 50
          · have hbd := HB.out.drewN 1
            go_wp2_with fail
            go_region_held3 (fun w' => w'.cell? ⟨w.heap.size, 3, none⟩ = some (.int .u32 a)) (first | exact x3 | exact y3 | exact z3)
              (first
                | (go_at_call 15; refine (put_any a _ N f h0d.r hbd a0 a1 (by omega)).mono ?_; rintro e w2 ⟨rfl, hm2, hf2⟩; have hq2 := h0d.left hm2 hf2; have y3 := cell_fr hf2 x3 hXo.1; have hb2 := ByAt.fr hbd hf2 hBo.1)
                | (go_at_call 28; refine (rput_any a _ N f hq2 hb2 a0 a1 (by omega)).mono ?_; rintro e w3 ⟨rfl, hq3, hf3⟩; have z3 := cell_fr hf3 y3 hXo.2))
            go_wp2_with fail
            go_meet
            exact ⟨rfl, _, _, _, h0d.right hm2 hq3 hf3, row_own2 (row_drewN hx0 1) hf2 hf3 hXo, (hf0.drew.trans (hf2.mono fun _ e => .inl e)).trans (hf3.mono fun _ e => .inr e)⟩
          · have hbd := (byAt_cut HB.out (n := 50) (by omega)).drewN 1
            have hc50 : 50 < c := by omega
            go_wp2_with fail
            go_region_held3 (fun w' => w'.cell? ⟨w.heap.size, 3, none⟩ = some (.int .u32 a)) (first | exact x3 | exact y3 | exact z3)
              (first
                | (go_at_call 15; refine (put_any a _ 50 f h0d.r hbd a0 a1 (by omega)).mono ?_; rintro e w2 ⟨rfl, hm2, hf2⟩; have hq2 := h0d.left hm2 hf2; have y3 := cell_fr hf2 x3 hXo.1; have hb2 := ByAt.fr hbd hf2 hBo.1)
                | (go_at_call 28; refine (rput_any a _ 50 f hq2 hb2 a0 a1 (by omega)).mono ?_; rintro e w3 ⟨rfl, hq3, hf3⟩; have z3 := cell_fr hf3 y3 hXo.2))
            go_wp2_with fail
            go_meet
            exact ⟨rfl, _, _, _, h0d.right hm2 hq3 hf3, row_own2 (row_drewN hx0 1) hf2 hf3 hXo, (hf0.drew.trans (hf2.mono fun _ e => .inl e)).trans (hf3.mono fun _ e => .inr e)⟩
      · by_cases k5 : kd = 5
        · subst k5
          clear k00 k01 k4
          go_wp2_with fail
          refine (bytes_any a n h0.r a0 a1 n0 n1).mono ?_
          rintro e w2 ⟨v2, rfl, hv2, hf2⟩
          have h2 := h0.keep hf2 (fun _ _ _ => id)
          have hx2 := hx0.of_block (hf2.block _ hx0.lt id)
          have y1 := hx2.cell (i := 1) (by omega)
          have y3 := hx2.cell (i := 3) (by omega)
          simp only [askF] at y1 y3
          go_wp2_with fail
          refine (rbytes_any a n h2.q a0 a1 n0 n1).mono ?_
          rintro e w3 ⟨v3, rfl, hv3, hf3⟩
          have hc3 := conv_any hv3
          have hc2 := conv_any (hv2.fr hf3 (fun _ _ _ => id))
          go_wp2_with fail
          go_meet
          exact ⟨rfl, _, _, _, h2.keep hf3 (fun _ _ _ => id), hx2.of_block (hf3.block _ hx2.lt id), (hf0.trans (hf2.mono fun _ e => e.elim)).trans (hf3.mono fun _ e => e.elim)⟩
        · by_cases k6 : kd = 6
          · subst k6
            clear k00 k01 k4 k5
            go_wp2_with fail
            refine (mark_any pg h0.r).mono ?_
            rintro e w2 ⟨rfl, hm2, hf2⟩
            have hq2 := h0.left hm2 hf2
            have y2 := cell_fr hf2 x2 hXo.1
            go_wp2_with fail
            refine (rmark_true pg hq2).mono ?_
            rintro e w3 ⟨rfl, hq3, hf3⟩
            go_wp2_with fail
            go_meet
            exact ⟨rfl, _, _, _, h0.right hm2 hq3 hf3, row_own2 hx0 hf2 hf3 hXo, (hf0.trans (hf2.mono fun _ e => .inl e)).trans (hf3.mono fun _ e => .inr e)⟩
          · by_cases k7 : kd = 7
            · subst k7
              clear k00 k01 k4 k5 k6
              go_wp2_with fail
              refine (unmark_any pg h0.r).mono ?_
              rintro e w2 ⟨rfl, hm2, hf2⟩
              have hq2 := h0.left hm2 hf2
              have y2 := cell_fr hf2 x2 hXo.1
              go_wp2_with fail
              refine (rmark_false pg hq2).mono ?_
              rintro e w3 ⟨rfl, hq3, hf3⟩
              go_wp2_with fail
              go_meet
              exact ⟨rfl, _, _, _, h0.right hm2 hq3 hf3, row_own2 hx0 hf2 hf3 hXo, (hf0.trans (hf2.mono fun _ e => .inl e)).trans (hf3.mono fun _ e => .inr e)⟩
            · by_cases k8 : kd = 8
              · subst k8
                clear k00 k01 k4 k5 k6 k7
                go_wp2_with fail
                refine (written_any h0.r).mono ?_
                rintro e w2 ⟨v2, rfl, ho2, hm2, hf2⟩
                have hq2 := h0.left hm2 hf2
                go_wp2_with fail
                refine (rwritten_any hq2).mono ?_
                rintro e w3 ⟨v3, rfl, ho3, hq3, hf3⟩
                have q1 := hf0.size
                have hx := IntsAt.of_own (IntsAt.fr ho2 hf3 (by rintro x e1 e2 (e | e | e) <;> omega))
                go_wp2_with fail
                refine (same_any _ _ _ _ hx (IntsAt.of_own ho3) (by have := wl_len D p; have := h0.r.p2; omega)).mono ?_
                rintro e w4 ⟨rfl, n4, rfl⟩
                go_wp2_with fail
                go_meet
                exact ⟨rfl, _, _, _, (h0.right hm2 hq3 hf3).drewN _, row_drewN (row_own2 hx0 hf2 hf3 hXo) _, ((hf0.trans (hf2.mono fun _ e => .inl e)).trans (hf3.mono fun _ e => .inr e)).drewN _⟩
              · have e4 : (kd == 4) = false := by simp; omega
                have e5 : (kd == 5) = false := by simp; omega
                have e6 : (kd == 6) = false := by simp; omega
                have e7 : (kd == 7) = false := by simp; omega
                have e8 : (kd == 8) = false := by simp; omega
                clear k4 k5 k6 k7 k8
                go_wp2_with fail
                go_meet
                exact ⟨rfl, _, _, _, h0, hx0, hf0⟩
  case rest =>
    obtain ⟨rfl, C2, M2, D2, h2, hx, hf2⟩ := hcut
    have x1 := hx.cell (i := 1) (by omega)
    have x2 := hx.cell (i := 2) (by omega)
    have x3 := hx.cell (i := 3) (by omega)
    simp only [askF] at x1 x2 x3
    clear h hb hx
    obtain ⟨L, O, HL⟩ : ∃ L O, Hid (loadV p C2 a n = .tuple #[.int .u32 L, .bool O]) := ⟨_, _, rfl⟩
    go_wp2_with fail
    refine (load_any a n h2.r a0 a1 n0 n1).mono ?_
    rintro e w3 ⟨rfl, rfl⟩
    rw [HL.out]
    go_wp2_with fail
    refine (rload_any a n h2.q a0 a1 n0 n1).mono ?_
    rintro e w3 ⟨rfl, rfl⟩
    rw [HL.out]
    have c1 := h2.q.cell1
    by_cases hp0 : 0 ≤ pg
    · by_cases hp1 : pg < p
      · have hcm := h2.q.hm.cell (i := pg.toNat) (by omega)
        obtain ⟨V, rfl⟩ : ∃ V : Nat, pg = V := ⟨pg.toNat, by omega⟩
        have hV : V < p := by omega
        simp only [Int.toNat_natCast] at hcm
        have hd : decide ((V : Int) < (p : Int)) = true := by simp; omega
        have hd0 : decide (0 ≤ (V : Int)) = true := by simp
        go_wp2_with fail
        go_quiet (fail)
        go_wp2_with fail
        go_quiet ((go_at_call 17; exact (marked_nat hV (h2.r.drewN _)).mono fun _ _ h => ⟨h.1, _, h.2.symm⟩))
        go_wp2
        go_ret
        exact ⟨rfl, ⟨C2, M2, D2, (h2.drewN _).drewN _⟩, (hf2.drewN _).drewN _⟩
      · have hd : decide (pg < (p : Int)) = false := by simp; omega
        have hd0 : decide (0 ≤ pg) = true := by simp; omega
        have HP := Lib.hid (show isP p pg = false by simp [isP]; omega)
        go_wp2_with fail
        go_quiet (fail)
        go_wp2_with fail
        go_quiet ((go_at_call 17; exact (marked_out HP.out (h2.r.drewN _)).mono fun _ _ h => ⟨h.1, _, h.2.symm⟩))
        go_wp2
        go_ret
        exact ⟨rfl, ⟨C2, M2, D2, (h2.drewN _).drewN _⟩, (hf2.drewN _).drewN _⟩
    · have hd0 : decide (0 ≤ pg) = false := by simp; omega
      have HP := Lib.hid (show isP p pg = false by simp [isP]; omega)
      go_wp2_with fail
      go_quiet (fail)
      go_wp2_with fail
      go_quiet ((go_at_call 17; exact (marked_out HP.out (h2.r.drewN _)).mono fun _ _ h => ⟨h.1, _, h.2.symm⟩))
      go_wp2
      go_ret
      exact ⟨rfl, ⟨C2, M2, D2, (h2.drewN _).drewN _⟩, (hf2.drewN _).drewN _⟩
end
end Go.Proofs.Ytfpddhpacfcfmaa
