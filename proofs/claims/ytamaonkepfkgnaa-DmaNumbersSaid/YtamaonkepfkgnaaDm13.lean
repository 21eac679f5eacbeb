/-
  Chapter 13: a mover in memory, beside its wheel and its memory; the functions of package dma.
-/
import Derived.Test.YtamaonkepfkgnaaDs13
import Derived.Deep.RegionHeld3
namespace Go.Proofs.Ytamaonkepfkgnaa
open Go.RowKit
set_option linter.unusedVariables false
set_option linter.unusedSimpArgs false

def dm7 (d : Int) (g r : Nat) (f t c s : Int) : Nat → Value
  | 0 => .int .i64 d
  | 1 => .pointer (some ⟨g, 0, none⟩)
  | 2 => .pointer (some ⟨r, 0, none⟩)
  | 3 => .int .u32 f
  | 4 => .int .u32 t
  | 5 => .int .u32 c
  | _ => .int .u32 s
/-- block x is a mover of device d on the wheel in block g (its slice: v) and the memory in block r (its blocks: O), of p pages; it is S -/
structure Dm (w : World) (x g r : Nat) (O : Nat → Prop) (p : Nat) (d : Int) (v : Value) (S : DS) : Prop where
  row : w.rowIs x 87 7 (dm7 d g r S.f S.t S.c (sw S.bz S.dn S.er))
  wh : Wh 83 w g v (qL d S.q) S.a
  mm : Ra 85 w r O p S.C
  xw : ¬ Own g v x
  xm : ¬ O x
  wm : ∀ k, Own g v k → ¬ O k
def OwnD (x g : Nat) (O : Nat → Prop) (v : Value) (k : Nat) : Prop := k = x ∨ Own g v k ∨ O k
/-- of what was there the mover's own blocks alone have turned -/
structure CD (x g : Nat) (O : Nat → Prop) (v v2 : Value) (w w' : World) : Prop where
  fr : Fr (OwnD x g O v) w w'
  nw : ∀ k, v2.ownBlock = some k → v.ownBlock = some k ∨ w.heap.size ≤ k
section
variable {w w' w1 w2 : World} {x g r : Nat} {O : Nat → Prop} {p : Nat} {d : Int} {v v2 v3 : Value} {S S2 : DS}
theorem CD.refl (x g : Nat) (O : Nat → Prop) (v : Value) (w : World) : CD x g O v v w w := ⟨Fr.refl _ _, fun _ h => .inl h⟩
theorem CD.of_ch (h : Ch g v v2 w w') : CD x g O v v2 w w' := ⟨h.fr.mono (fun _ e => .inr (.inl e)), h.nw⟩
theorem CD.of_mem (h : Fr O w w') : CD x g O v v w w' := ⟨h.mono (fun _ e => .inr (.inr e)), fun _ h => .inl h⟩
theorem CD.of_below (b : Below w.heap.size w w') : CD x g O v v w w' := ⟨Fr.of_below b, fun _ h => .inl h⟩
theorem CD.of_no (b : Fr (fun _ => False) w w') : CD x g O v v w w' := ⟨b.mono (fun _ e => e.elim), fun _ h => .inl h⟩
theorem CD.trans (h : CD x g O v v2 w w1) (k : CD x g O v2 v3 w1 w2) : CD x g O v v3 w w2 := by
  refine ⟨⟨k.fr.os.trans h.fr.os, k.fr.tape.trans h.fr.tape, k.fr.output.trans h.fr.output, Nat.le_trans h.fr.size k.fr.size, fun i hi hn => ?_⟩, fun i hi => ?_⟩
  · refine (k.fr.block i (Nat.lt_of_lt_of_le hi h.fr.size) ?_).trans (h.fr.block i hi hn)
    rintro (e | (e | e) | e)
    · exact hn (.inl e)
    · exact hn (.inr (.inl (.inl e)))
    · rcases h.nw i e with e | e
      · exact hn (.inr (.inl (.inr e)))
      · omega
    · exact hn (.inr (.inr e))
  · rcases k.nw i hi with e | e
    · exact h.nw i e
    · exact .inr (Nat.le_trans h.fr.size e)
theorem CD.set (x g : Nat) (O : Nat → Prop) (v : Value) (w : World) (i : Nat) (u : Value) : CD x g O v v w (w.setCell ⟨x, i, none⟩ u) := ⟨(Fr.refl (OwnD x g O v) w).setCell (x := ⟨x, i, none⟩) (.inl (show OwnD x g O v x from .inl rfl)) u, fun _ h => .inl h⟩
theorem CD.drewN (x g : Nat) (O : Nat → Prop) (v : Value) (w : World) (n : Nat) : CD x g O v v w (w.drewN n) := ⟨(Fr.refl (OwnD x g O v) w).drewN n, fun _ h => .inl h⟩
/-- its own blocks behind: its own ahead, or new -/
theorem CD.own (c : CD x g O v v2 w w1) : ∀ k, OwnD x g O v2 k → OwnD x g O v k ∨ w.heap.size ≤ k := by
  rintro k (e | (e | e) | e)
  · exact .inl (.inl e)
  · exact .inl (.inr (.inl (.inl e)))
  · rcases c.nw k e with e | e
    · exact .inl (.inr (.inl (.inr e)))
    · exact .inr e
  · exact .inl (.inr (.inr e))
theorem Dm.k0 (h : Dm w x g r O p d v S) : w.cell? ⟨x, 0, none⟩ = some (.int .i64 d) := h.row.cell (i := 0) (by omega)
theorem Dm.k1 (h : Dm w x g r O p d v S) : w.cell? ⟨x, 1, none⟩ = some (.pointer (some ⟨g, 0, none⟩)) := h.row.cell (i := 1) (by omega)
theorem Dm.k2 (h : Dm w x g r O p d v S) : w.cell? ⟨x, 2, none⟩ = some (.pointer (some ⟨r, 0, none⟩)) := h.row.cell (i := 2) (by omega)
theorem Dm.k3 (h : Dm w x g r O p d v S) : w.cell? ⟨x, 3, none⟩ = some (.int .u32 S.f) := h.row.cell (i := 3) (by omega)
theorem Dm.k4 (h : Dm w x g r O p d v S) : w.cell? ⟨x, 4, none⟩ = some (.int .u32 S.t) := h.row.cell (i := 4) (by omega)
theorem Dm.k5 (h : Dm w x g r O p d v S) : w.cell? ⟨x, 5, none⟩ = some (.int .u32 S.c) := h.row.cell (i := 5) (by omega)
theorem Dm.k6 (h : Dm w x g r O p d v S) : w.cell? ⟨x, 6, none⟩ = some (.int .u32 (sw S.bz S.dn S.er)) := h.row.cell (i := 6) (by omega)
theorem Dm.fr {Q : Nat → Prop} (h : Dm w x g r O p d v S) (f : Fr Q w w') (hs : ∀ k, OwnD x g O v k → ¬ Q k) : Dm w' x g r O p d v S :=
  ⟨h.row.of_block (f.block _ h.row.lt (hs x (.inl rfl))), h.wh.fr f (fun k hk => hs k (.inr (.inl hk))), h.mm.fr f (fun k hk => hs k (.inr (.inr hk))), h.xw, h.xm, h.wm⟩
theorem Dm.lt (h : Dm w x g r O p d v S) : ∀ k, OwnD x g O v k → k < w.heap.size := by
  rintro k (rfl | hk | hk)
  · exact h.row.lt
  · exact h.wh.lt k hk
  · exact h.mm.lt k hk
theorem Dm.drewN (h : Dm w x g r O p d v S) (n : Nat) : Dm (w.drewN n) x g r O p d v S := h.fr ((Fr.refl (fun _ => False) w).drewN n) (fun _ _ => id)
theorem Dm.no (h : Dm w x g r O p d v S) (f : Fr (fun _ => False) w w') : Dm w' x g r O p d v S := h.fr f (fun _ _ => id)
theorem Dm.below (h : Dm w x g r O p d v S) (b : Below w.heap.size w w') : Dm w' x g r O p d v S := h.no (Fr.of_below (S := fun _ => False) b)
/-- its wheel is another one -/
theorem Dm.wheel (h : Dm w x g r O p d v S) {q : Option (Int × Int)} {a : Int} (hw : Wh 83 w' g v2 (qL d q) a) (hch : Ch g v v2 w w') : Dm w' x g r O p d v2 { S with q := q, a := a } := by
  refine ⟨h.row.of_block (hch.fr.block _ h.row.lt h.xw), hw, h.mm.fr hch.fr (fun k hk e => h.wm k e hk), ?_, h.xm, ?_⟩
  · rintro (e | e)
    · exact h.xw (.inl e)
    · rcases hch.nw _ e with e | e
      · exact h.xw (.inr e)
      · have := h.row.lt; omega
  · rintro k (e | e)
    · exact h.wm k (.inl e)
    · rcases hch.nw _ e with e | e
      · exact h.wm k (.inr e)
      · intro ho; have := h.mm.lt k ho; omega
/-- its memory has other bytes -/
theorem Dm.mem (h : Dm w x g r O p d v S) {C : Nat → Int} (hm : Ra 85 w' r O p C) (f : Fr O w w') : Dm w' x g r O p d v { S with C := C } :=
  ⟨h.row.of_block (f.block _ h.row.lt h.xm), h.wh.fr f (fun k hk => h.wm k hk), hm, h.xw, h.xm, h.wm⟩
theorem Dm.setX (h : Dm w x g r O p d v S) (i : Nat) (u : Value) (f t c : Int) (bz dn er : Bool) (hu : ∀ j, j < 7 → (if j = i then u else dm7 d g r S.f S.t S.c (sw S.bz S.dn S.er) j) = dm7 d g r f t c (sw bz dn er) j) :
    Dm (w.setCell ⟨x, i, none⟩ u) x g r O p d v { S with f := f, t := t, c := c, bz := bz, dn := dn, er := er } := by
  have fr : Fr (fun k => k = x) w (w.setCell ⟨x, i, none⟩ u) := (Fr.refl (fun k => k = x) w).setCell (x := ⟨x, i, none⟩) (.inl rfl) u
  exact ⟨(h.row.set i u).congr hu, h.wh.fr fr (fun k hk e => h.xw (e ▸ hk)), h.mm.fr fr (fun k hk e => h.xm (e ▸ hk)), h.xw, h.xm, h.wm⟩
theorem Dm.setF (h : Dm w x g r O p d v S) (n : Int) : Dm (w.setCell ⟨x, 3, none⟩ (.int .u32 n)) x g r O p d v { S with f := n } :=
  h.setX 3 (.int .u32 n) n S.t S.c S.bz S.dn S.er (fun j hj => by
    have : j = 0 ∨ j = 1 ∨ j = 2 ∨ j = 3 ∨ j = 4 ∨ j = 5 ∨ j = 6 := by omega
    rcases this with rfl | rfl | rfl | rfl | rfl | rfl | rfl <;> rfl)
theorem Dm.setT (h : Dm w x g r O p d v S) (n : Int) : Dm (w.setCell ⟨x, 4, none⟩ (.int .u32 n)) x g r O p d v { S with t := n } :=
  h.setX 4 (.int .u32 n) S.f n S.c S.bz S.dn S.er (fun j hj => by
    have : j = 0 ∨ j = 1 ∨ j = 2 ∨ j = 3 ∨ j = 4 ∨ j = 5 ∨ j = 6 := by omega
    rcases this with rfl | rfl | rfl | rfl | rfl | rfl | rfl <;> rfl)
theorem Dm.setN (h : Dm w x g r O p d v S) (n : Int) : Dm (w.setCell ⟨x, 5, none⟩ (.int .u32 n)) x g r O p d v { S with c := n } :=
  h.setX 5 (.int .u32 n) S.f S.t n S.bz S.dn S.er (fun j hj => by
    have : j = 0 ∨ j = 1 ∨ j = 2 ∨ j = 3 ∨ j = 4 ∨ j = 5 ∨ j = 6 := by omega
    rcases this with rfl | rfl | rfl | rfl | rfl | rfl | rfl <;> rfl)
theorem Dm.setS (h : Dm w x g r O p d v S) (n : Int) (bz dn er : Bool) (hn : n = sw bz dn er) : Dm (w.setCell ⟨x, 6, none⟩ (.int .u32 n)) x g r O p d v { S with bz := bz, dn := dn, er := er } := by
  subst hn
  exact h.setX 6 (.int .u32 (sw bz dn er)) S.f S.t S.c bz dn er (fun j hj => by
    have : j = 0 ∨ j = 1 ∨ j = 2 ∨ j = 3 ∨ j = 4 ∨ j = 5 ∨ j = 6 := by omega
    rcases this with rfl | rfl | rfl | rfl | rfl | rfl | rfl <;> rfl)
end
/-- it returns y; the mover is S2 then -/
def RetD (y : Value) (w : World) (x g r : Nat) (O : Nat → Prop) (p : Nat) (d : Int) (v : Value) (S2 : DS) (e : Ending) (w' : World) : Prop :=
  e = .returned y ∧ ∃ v2, Dm w' x g r O p d v2 S2 ∧ CD x g O v v2 w w'

theorem dm_new {w : World} {g r : Nat} {O : Nat → Prop} {p : Nat} {C : Nat → Int} (d : Int) (hw : Wh 83 w g (.slice none 0 0) [] 0) (hm : Ra 85 w r O p C) (hs : ¬ O g) :
    Dm (w.alloc (.cells #[.int .i64 d, .pointer (some ⟨g, 0, none⟩), .pointer (some ⟨r, 0, none⟩), .int .u32 0, .int .u32 0, .int .u32 0, .int .u32 0] 87)) w.heap.size g r O p d (.slice none 0 0) ⟨0, 0, 0, false, false, false, none, 0, C⟩ := by
  have hb : Below w.heap.size w (w.alloc (.cells #[.int .i64 d, .pointer (some ⟨g, 0, none⟩), .pointer (some ⟨r, 0, none⟩), .int .u32 0, .int .u32 0, .int .u32 0, .int .u32 0] 87)) := (Below.refl _ _).alloc (Nat.le_refl _) _
  have hg := hw.lt g (.inl rfl)
  refine ⟨World.rowIs_alloc w _ _ _ fun i hi => ?_, hw.below hb, hm.below hb, ?_, ?_, ?_⟩
  · have : i = 0 ∨ i = 1 ∨ i = 2 ∨ i = 3 ∨ i = 4 ∨ i = 5 ∨ i = 6 := by have : i < 7 := hi; omega
    rcases this with rfl | rfl | rfl | rfl | rfl | rfl | rfl <;> rfl
  · rintro (e | e)
    · omega
    · cases e
  · intro e; exact Nat.lt_irrefl _ (hm.lt _ e)
  · rintro k (rfl | e)
    · exact hs
    · cases e
section
variable {w : World} {x g r : Nat} {O : Nat → Prop} {p : Nat} {d : Int} {v : Value} {S : DS}
set_option maxRecDepth 100000 in
set_option maxHeartbeats 1000000 in
theorem dnew_any {C : Nat → Int} (d : Int) (hw : Wh 83 w g (.slice none 0 0) [] 0) (hm : Ra 85 w r O p C) (hs : ¬ O g) :
    Calls Try.prog 11 #[.int .i64 d, .pointer (some ⟨g, 0, none⟩), .pointer (some ⟨r, 0, none⟩)] w fun e w' => ∃ x, w.heap.size ≤ x ∧ e = .returned (.pointer (some ⟨x, 0, none⟩)) ∧ Dm w' x g r O p d (.slice none 0 0) ⟨0, 0, 0, false, false, false, none, 0, C⟩ ∧ Below w.heap.size w w' := by
  have hN := dm_new d hw hm hs
  go_enter Try.func11, Try.ntmps11
  go_wp2
  go_ret
  exact ⟨_, Nat.le_refl _, rfl, hN, (Below.refl _ _).alloc (Nat.le_refl _) _⟩
set_option maxRecDepth 100000 in
set_option maxHeartbeats 1000000 in
theorem dnew_nil (d : Int) (w : World) (u : Option Addr) :
    Calls Try.prog 11 #[.int .i64 d, .pointer u, .pointer none] w fun e w' => e = .returned (.pointer none) ∧ w = w' := by
  cases u with
  | none =>
    go_enter Try.func11, Try.ntmps11
    go_wp2
    go_ret
    exact ⟨rfl, rfl⟩
  | some a =>
    go_enter Try.func11, Try.ntmps11
    go_wp2
    go_ret
    exact ⟨rfl, rfl⟩
set_option maxRecDepth 100000 in
set_option maxHeartbeats 1000000 in
theorem dline_any (h : Dm w x g r O p d v S) :
    Calls Try.prog 19 #[.pointer (some ⟨x, 0, none⟩)] w fun e w' => e = .returned (.bool (S.dn || S.er)) ∧ w = w' := by
  have k6 := h.k6
  have e6 := sw_is6 S.bz S.dn S.er
  have HE := Lib.hid e6
  clear e6
  go_enter Try.func19, Try.ntmps19
  go_wp2
  go_ret
  exact ⟨ret_bool HE.out, rfl⟩
theorem arm_T {W : World} {a : Int} {q : Option (Int × Int)} (T : Int) (hw : Wh 83 W g v (qL d q) a) (hok : okB d T = true) (ha : 0 ≤ a ∧ a ≤ 1000000) :
    Calls Try.prog 49 #[.pointer (some ⟨g, 0, none⟩), .int .i64 d, .int .i64 T] W (RetW 83 (.bool true) W g v (qL d (some (T, a))) (a + 1)) := by
  have hl := qL_len d q
  have := arm_any d T hw (by omega) ha
  unfold armL armA at this
  rw [hok, if_pos rfl, if_pos rfl, arm_q] at this
  exact this
set_option maxRecDepth 100000 in
set_option maxHeartbeats 1000000 in
theorem dstart_no (now : Int) (h : Dm w x g r O p d v S) (hz : S.bz = true) :
    Calls Try.prog 33 #[.pointer (some ⟨x, 0, none⟩), .int .i64 now] w fun e w' => e = .returned (.tuple #[]) ∧ w = w' := by
  have k6 := h.k6
  obtain ⟨s, hs⟩ : ∃ s, sw S.bz S.dn S.er = s := ⟨_, rfl⟩
  have e1 := sw_is1 S.bz S.dn S.er
  rw [hs] at e1 k6
  rw [hz] at e1
  clear hs hz
  go_enter Try.func33, Try.ntmps33
  go_wp2
  refine bodyPost_ret (results_none rfl _ _ _) rfl ?_
  exact ⟨rfl, rfl⟩
set_option maxRecDepth 100000 in
set_option maxHeartbeats 1000000 in
theorem dstart_yes (now : Int) (h : Dm w x g r O p d v S) (hz : S.bz = false) (ha : 0 ≤ S.a ∧ S.a ≤ 1000000) (c0 : 0 ≤ S.c) (c1 : S.c < 4294967296) (d0 : 0 ≤ d) (d1 : d < 16) (n0 : 0 ≤ now) (n1 : now ≤ 4611686018427387904) :
    Calls Try.prog 33 #[.pointer (some ⟨x, 0, none⟩), .int .i64 now] w (RetD (.tuple #[]) w x g r O p d v (startD now S)) := by
  have k6 := h.k6
  have f6 := h.row.frozen 6
  have k5 := h.k5
  obtain ⟨s, hs⟩ : ∃ s, sw S.bz S.dn S.er = s := ⟨_, rfl⟩
  have e1 := sw_is1 S.bz S.dn S.er
  rw [hs] at e1 k6
  rw [hz] at e1
  obtain ⟨s2, hs2⟩ : ∃ s2, Hid (bits .or .u32 s 1 = s2) := ⟨_, Lib.hid rfl⟩
  have H1 : Hid (Dm (w.setCell ⟨x, 6, none⟩ (.int .u32 s2)) x g r O p d v { S with bz := true }) := h.setS s2 true S.dn S.er (by rw [← hs2.out, ← hs]; exact sw_or1 _ _ _)
  have C1 : CD x g O v v w (w.setCell ⟨x, 6, none⟩ (.int .u32 s2)) := CD.set x g O v w 6 (.int .u32 s2)
  clear hs hz
  by_cases hc : S.c ≤ 4096
  · obtain ⟨c, hC⟩ : ∃ c, S.c = c := ⟨_, rfl⟩
    rw [hC] at k5 c0 c1 hc
    obtain ⟨T, HT⟩ : ∃ T, Hid (IntKind.i64.wrap (now + IntKind.i64.wrap (c / 4 + 1)) = T) := ⟨_, Lib.hid rfl⟩
    have hT : T = now + (c / 4 + 1) := by rw [← HT.out, IntKind.wrap_i64, IntKind.wrap_i64]; omega
    have hok : okB d T = true := by unfold okB; apply decide_eq_true; omega
    have HA : Hid (startD now S = { S with bz := true, q := some (T, S.a), a := S.a + 1 }) := by show _ = _; unfold startD dl; rw [hT, hC, show min c 4096 = c by omega]
    clear hC
    clear n0 n1 hT
    go_enter Try.func33, Try.ntmps33
    go_wp2_with fail
    rw [hs2.out]
    generalize w.setCell ⟨x, 6, none⟩ (.int .u32 s2) = w1 at H1 C1 ⊢
    have h1 := H1.out
    have hd : Dm w1.drew x g r O p d v { S with bz := true } := h1.drewN 1
    have hdw : Wh 83 w1.drew g v (qL d S.q) S.a := hd.wh
    have x0 : w1.drew.cell? ⟨x, 0, none⟩ = some (.int .i64 d) := hd.k0
    have x1 : w1.drew.cell? ⟨x, 1, none⟩ = some (.pointer (some ⟨g, 0, none⟩)) := hd.k1
    go_region_held3 (fun w' => w'.cell? ⟨x, 0, none⟩ = some (.int .i64 d) ∧ w'.cell? ⟨x, 1, none⟩ = some (.pointer (some ⟨g, 0, none⟩))) (first | with_reducible exact ⟨x0, x1⟩ | with_reducible exact ⟨y0, y1⟩)
      (first
        | (go_at_call 49; rw [HT.out]; (with_reducible refine (arm_T (W := w1.drew) T hdw hok ha).mono ?_); rintro e w4 ⟨rfl, v4, hw4, hch4⟩; have h4 := hd.wheel hw4 hch4; have y0 := h4.k0; have y1 := h4.k1))
    go_wp2
    go_end0
    exact ⟨rfl, v4, by rw [HA.out]; exact h4, (C1.trans (CD.drewN x g O v w1 1)).trans (CD.of_ch hch4)⟩
  · obtain ⟨c, hC⟩ : ∃ c, S.c = c := ⟨_, rfl⟩
    rw [hC] at k5 c0 c1 hc
    obtain ⟨T, HT⟩ : ∃ T, Hid (IntKind.i64.wrap (now + IntKind.i64.wrap 1025) = T) := ⟨_, Lib.hid rfl⟩
    have hT : T = now + 1025 := by rw [← HT.out, IntKind.wrap_i64, IntKind.wrap_i64]; omega
    have hok : okB d T = true := by unfold okB; apply decide_eq_true; omega
    have HA : Hid (startD now S = { S with bz := true, q := some (T, S.a), a := S.a + 1 }) := by show _ = _; unfold startD dl; rw [hT, hC, show min c 4096 / 4 + 1 = 1025 by omega]
    clear hC
    clear n0 n1 hT
    go_enter Try.func33, Try.ntmps33
    go_wp2_with fail
    rw [hs2.out]
    generalize w.setCell ⟨x, 6, none⟩ (.int .u32 s2) = w1 at H1 C1 ⊢
    have h1 := H1.out
    have hd : Dm w1.drew x g r O p d v { S with bz := true } := h1.drewN 1
    have hdw : Wh 83 w1.drew g v (qL d S.q) S.a := hd.wh
    have x0 : w1.drew.cell? ⟨x, 0, none⟩ = some (.int .i64 d) := hd.k0
    have x1 : w1.drew.cell? ⟨x, 1, none⟩ = some (.pointer (some ⟨g, 0, none⟩)) := hd.k1
    go_region_held3 (fun w' => w'.cell? ⟨x, 0, none⟩ = some (.int .i64 d) ∧ w'.cell? ⟨x, 1, none⟩ = some (.pointer (some ⟨g, 0, none⟩))) (first | with_reducible exact ⟨x0, x1⟩ | with_reducible exact ⟨y0, y1⟩)
      (first
        | (go_at_call 49; rw [HT.out]; (with_reducible refine (arm_T (W := w1.drew) T hdw hok ha).mono ?_); rintro e w4 ⟨rfl, v4, hw4, hch4⟩; have h4 := hd.wheel hw4 hch4; have y0 := h4.k0; have y1 := h4.k1))
    go_wp2
    go_end0
    exact ⟨rfl, v4, by rw [HA.out]; exact h4, (C1.trans (CD.drewN x g O v w1 1)).trans (CD.of_ch hch4)⟩
end
end Go.Proofs.Ytamaonkepfkgnaa
