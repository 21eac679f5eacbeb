/-
  Chapter 15: a mover in memory, in the one state, beside its wheel and its memory; the functions of package dma.
-/
import Derived.Test.YtkfedihaldpgmaaTi15
import Derived.Deep.RegionHeld3
namespace Go.Proofs.Ytkfedihaldpgmaa
open Go.RowKit
set_option linter.unusedVariables false
set_option linter.unusedSimpArgs false

def wordM (k : Nat) (S : BS) : Int := match k with
  | 0 => S.f
  | 1 => S.t
  | 2 => S.n
  | 4 => sw S.bz S.dn S.er
  | _ => 0
def dm7 (d : Int) (g r : Nat) (f t c s : Int) : Nat → Value
  | 0 => .int .i64 d
  | 1 => .pointer (some ⟨g, 0, none⟩)
  | 2 => .pointer (some ⟨r, 0, none⟩)
  | 3 => .int .u32 f
  | 4 => .int .u32 t
  | 5 => .int .u32 c
  | _ => .int .u32 s
/-- block x is a mover of device d on the wheel in block g (its slice: v) and the memory in block r (its blocks: O), of p pages; it is S -/
structure Dm (w : World) (x g r y : Nat) (O : Nat → Prop) (p ns : Nat) (v : Value) (S : BS) : Prop where
  row : w.rowIs x 97 7 (dm7 4 g r S.f S.t S.n (sw S.bz S.dn S.er))
  wh : Wh 82 w g v (S.L) S.a
  mm : Mk 63 w r y O p ns S.C S.D
  xw : ¬ Own g v x
  xm : ¬ O x
  wm : ∀ k, Own g v k → ¬ O k
def OwnMv (x g : Nat) (O : Nat → Prop) (v : Value) (k : Nat) : Prop := k = x ∨ Own g v k ∨ O k
/-- of what was there the mover's own blocks alone have turned -/
structure CM (x g : Nat) (O : Nat → Prop) (v v2 : Value) (w w' : World) : Prop where
  fr : Fr (OwnMv x g O v) w w'
  nw : ∀ k, v2.ownBlock = some k → v.ownBlock = some k ∨ w.heap.size ≤ k
section
variable {w w' w1 w2 : World} {x g r y : Nat} {O : Nat → Prop} {p ns : Nat} {v v2 v3 : Value} {S S2 : BS}
theorem CM.refl (x g : Nat) (O : Nat → Prop) (v : Value) (w : World) : CM x g O v v w w := ⟨Fr.refl _ _, fun _ h => .inl h⟩
theorem CM.of_ch (h : Ch g v v2 w w') : CM x g O v v2 w w' := ⟨h.fr.mono (fun _ e => .inr (.inl e)), h.nw⟩
theorem CM.of_mem (h : Fr O w w') : CM x g O v v w w' := ⟨h.mono (fun _ e => .inr (.inr e)), fun _ h => .inl h⟩
theorem CM.of_below (b : Below w.heap.size w w') : CM x g O v v w w' := ⟨Fr.of_below b, fun _ h => .inl h⟩
theorem CM.of_no (b : Fr (fun _ => False) w w') : CM x g O v v w w' := ⟨b.mono (fun _ e => e.elim), fun _ h => .inl h⟩
theorem CM.trans (h : CM x g O v v2 w w1) (k : CM x g O v2 v3 w1 w2) : CM x g O v v3 w w2 := by
  refine ⟨⟨k.fr.os.trans h.fr.os, k.fr.tape.trans h.fr.tape, k.fr.output.trans h.fr.output, Nat.le_trans h.fr.size k.fr.size, fun i hi hn => ?_⟩, fun i hi => ?_⟩
  · refine (k.fr.block i (Nat.lt_of_lt_of_le hi h.fr.size) ?_).trans (h.fr.block i hi hn)
    rintro (e | (e | e) | e)
    · exact hn (.inl e)
    · exact hn (.inr (.inl (.inl e)))
    · rcases h.nw i e with e | e
      · exact hn (.inr (.inl (.inr e)))
      · omega
    · exact hn (.inr (.inr e))
  · rcases k.nw i hi with e | e
    · exact h.nw i e
    · exact .inr (Nat.le_trans h.fr.size e)
theorem CM.set (x g : Nat) (O : Nat → Prop) (v : Value) (w : World) (i : Nat) (u : Value) : CM x g O v v w (w.setCell ⟨x, i, none⟩ u) := ⟨(Fr.refl (OwnMv x g O v) w).setCell (x := ⟨x, i, none⟩) (.inl (show OwnMv x g O v x from .inl rfl)) u, fun _ h => .inl h⟩
theorem CM.drewN (x g : Nat) (O : Nat → Prop) (v : Value) (w : World) (n : Nat) : CM x g O v v w (w.drewN n) := ⟨(Fr.refl (OwnMv x g O v) w).drewN n, fun _ h => .inl h⟩
/-- its own blocks behind: its own ahead, or new -/
theorem CM.own (c : CM x g O v v2 w w1) : ∀ k, OwnMv x g O v2 k → OwnMv x g O v k ∨ w.heap.size ≤ k := by
  rintro k (e | (e | e) | e)
  · exact .inl (.inl e)
  · exact .inl (.inr (.inl (.inl e)))
  · rcases c.nw k e with e | e
    · exact .inl (.inr (.inl (.inr e)))
    · exact .inr e
  · exact .inl (.inr (.inr e))
theorem Dm.k0 (h : Dm w x g r y O p ns v S) : w.cell? ⟨x, 0, none⟩ = some (.int .i64 4) := h.row.cell (i := 0) (by omega)
theorem Dm.k1 (h : Dm w x g r y O p ns v S) : w.cell? ⟨x, 1, none⟩ = some (.pointer (some ⟨g, 0, none⟩)) := h.row.cell (i := 1) (by omega)
theorem Dm.k2 (h : Dm w x g r y O p ns v S) : w.cell? ⟨x, 2, none⟩ = some (.pointer (some ⟨r, 0, none⟩)) := h.row.cell (i := 2) (by omega)
theorem Dm.k3 (h : Dm w x g r y O p ns v S) : w.cell? ⟨x, 3, none⟩ = some (.int .u32 S.f) := h.row.cell (i := 3) (by omega)
theorem Dm.k4 (h : Dm w x g r y O p ns v S) : w.cell? ⟨x, 4, none⟩ = some (.int .u32 S.t) := h.row.cell (i := 4) (by omega)
theorem Dm.k5 (h : Dm w x g r y O p ns v S) : w.cell? ⟨x, 5, none⟩ = some (.int .u32 S.n) := h.row.cell (i := 5) (by omega)
theorem Dm.k6 (h : Dm w x g r y O p ns v S) : w.cell? ⟨x, 6, none⟩ = some (.int .u32 (sw S.bz S.dn S.er)) := h.row.cell (i := 6) (by omega)
theorem Dm.fr {Q : Nat → Prop} (h : Dm w x g r y O p ns v S) (f : Fr Q w w') (hs : ∀ k, OwnMv x g O v k → ¬ Q k) : Dm w' x g r y O p ns v S :=
  ⟨h.row.of_block (f.block _ h.row.lt (hs x (.inl rfl))), h.wh.fr f (fun k hk => hs k (.inr (.inl hk))), h.mm.fr f (fun k hk => hs k (.inr (.inr hk))), h.xw, h.xm, h.wm⟩
theorem Dm.lt (h : Dm w x g r y O p ns v S) : ∀ k, OwnMv x g O v k → k < w.heap.size := by
  rintro k (rfl | hk | hk)
  · exact h.row.lt
  · exact h.wh.lt k hk
  · exact h.mm.lt k hk
theorem Dm.drewN (h : Dm w x g r y O p ns v S) (n : Nat) : Dm (w.drewN n) x g r y O p ns v S := h.fr ((Fr.refl (fun _ => False) w).drewN n) (fun _ _ => id)
theorem Dm.no (h : Dm w x g r y O p ns v S) (f : Fr (fun _ => False) w w') : Dm w' x g r y O p ns v S := h.fr f (fun _ _ => id)
theorem Dm.below (h : Dm w x g r y O p ns v S) (b : Below w.heap.size w w') : Dm w' x g r y O p ns v S := h.no (Fr.of_below (S := fun _ => False) b)
/-- its wheel is another one -/
theorem Dm.wheel (h : Dm w x g r y O p ns v S) {L : List Ev} {a : Int} (hw : Wh 82 w' g v2 L a) (hch : Ch g v v2 w w') : Dm w' x g r y O p ns v2 { S with L := L, a := a } := by
  refine ⟨h.row.of_block (hch.fr.block _ h.row.lt h.xw), hw, h.mm.fr hch.fr (fun k hk e => h.wm k e hk), ?_, h.xm, ?_⟩
  · rintro (e | e)
    · exact h.xw (.inl e)
    · rcases hch.nw _ e with e | e
      · exact h.xw (.inr e)
      · have := h.row.lt; omega
  · rintro k (e | e)
    · exact h.wm k (.inl e)
    · rcases hch.nw _ e with e | e
      · exact h.wm k (.inr e)
      · intro ho; have := h.mm.lt k ho; omega
/-- its memory has other bytes -/
theorem Dm.mem (h : Dm w x g r y O p ns v S) {C : Nat → Int} (hm : Mk 63 w' r y O p ns C S.D) (f : Fr O w w') : Dm w' x g r y O p ns v { S with C := C } :=
  ⟨h.row.of_block (f.block _ h.row.lt h.xm), h.wh.fr f (fun k hk => h.wm k hk), hm, h.xw, h.xm, h.wm⟩
theorem Dm.setX (h : Dm w x g r y O p ns v S) (i : Nat) (u : Value) (f t c : Int) (bz dn er : Bool) (hu : ∀ j, j < 7 → (if j = i then u else dm7 4 g r S.f S.t S.n (sw S.bz S.dn S.er) j) = dm7 4 g r f t c (sw bz dn er) j) :
    Dm (w.setCell ⟨x, i, none⟩ u) x g r y O p ns v { S with f := f, t := t, n := c, bz := bz, dn := dn, er := er } := by
  have fr : Fr (fun k => k = x) w (w.setCell ⟨x, i, none⟩ u) := (Fr.refl (fun k => k = x) w).setCell (x := ⟨x, i, none⟩) (.inl rfl) u
  exact ⟨(h.row.set i u).congr hu, h.wh.fr fr (fun k hk e => h.xw (e ▸ hk)), h.mm.fr fr (fun k hk e => h.xm (e ▸ hk)), h.xw, h.xm, h.wm⟩
theorem Dm.setF (h : Dm w x g r y O p ns v S) (n : Int) : Dm (w.setCell ⟨x, 3, none⟩ (.int .u32 n)) x g r y O p ns v { S with f := n } :=
  h.setX 3 (.int .u32 n) n S.t S.n S.bz S.dn S.er (fun j hj => by
    have : j = 0 ∨ j = 1 ∨ j = 2 ∨ j = 3 ∨ j = 4 ∨ j = 5 ∨ j = 6 := by omega
    rcases this with rfl | rfl | rfl | rfl | rfl | rfl | rfl <;> rfl)
theorem Dm.setT (h : Dm w x g r y O p ns v S) (n : Int) : Dm (w.setCell ⟨x, 4, none⟩ (.int .u32 n)) x g r y O p ns v { S with t := n } :=
  h.setX 4 (.int .u32 n) S.f n S.n S.bz S.dn S.er (fun j hj => by
    have : j = 0 ∨ j = 1 ∨ j = 2 ∨ j = 3 ∨ j = 4 ∨ j = 5 ∨ j = 6 := by omega
    rcases this with rfl | rfl | rfl | rfl | rfl | rfl | rfl <;> rfl)
theorem Dm.setN (h : Dm w x g r y O p ns v S) (n : Int) : Dm (w.setCell ⟨x, 5, none⟩ (.int .u32 n)) x g r y O p ns v { S with n := n } :=
  h.setX 5 (.int .u32 n) S.f S.t n S.bz S.dn S.er (fun j hj => by
    have : j = 0 ∨ j = 1 ∨ j = 2 ∨ j = 3 ∨ j = 4 ∨ j = 5 ∨ j = 6 := by omega
    rcases this with rfl | rfl | rfl | rfl | rfl | rfl | rfl <;> rfl)
theorem Dm.setS (h : Dm w x g r y O p ns v S) (n : Int) (bz dn er : Bool) (hn : n = sw bz dn er) : Dm (w.setCell ⟨x, 6, none⟩ (.int .u32 n)) x g r y O p ns v { S with bz := bz, dn := dn, er := er } := by
  subst hn
  exact h.setX 6 (.int .u32 (sw bz dn er)) S.f S.t S.n bz dn er (fun j hj => by
    have : j = 0 ∨ j = 1 ∨ j = 2 ∨ j = 3 ∨ j = 4 ∨ j = 5 ∨ j = 6 := by omega
    rcases this with rfl | rfl | rfl | rfl | rfl | rfl | rfl <;> rfl)
end
/-- it returns y; the mover is S2 then -/
def RetMv (yv : Value) (w : World) (x g r y : Nat) (O : Nat → Prop) (p ns : Nat) (v : Value) (S2 : BS) (e : Ending) (w' : World) : Prop :=
  e = .returned yv ∧ ∃ v2, Dm w' x g r y O p ns v2 S2 ∧ CM x g O v v2 w w'

section
variable {w : World} {x g r y : Nat} {O : Nat → Prop} {p ns : Nat} {v : Value} {S : BS}
set_option maxRecDepth 100000 in
set_option maxHeartbeats 1000000 in
theorem mnewd_any (g r : Nat) (w : World) :
    Calls Try.prog 31 #[.int .i64 4, .pointer (some ⟨g, 0, none⟩), .pointer (some ⟨r, 0, none⟩)] w fun e w' => ∃ x, w.heap.size ≤ x ∧ e = .returned (.pointer (some ⟨x, 0, none⟩)) ∧ w'.rowIs x 97 7 (dm7 4 g r 0 0 0 0) ∧ Below w.heap.size w w' := by
  go_enter Try.func31, Try.ntmps31
  go_wp2
  go_ret
  refine ⟨_, Nat.le_refl _, rfl, World.rowIs_alloc w _ _ _ fun i hi => ?_, (Below.refl _ _).alloc (Nat.le_refl _) _⟩
  have : i = 0 ∨ i = 1 ∨ i = 2 ∨ i = 3 ∨ i = 4 ∨ i = 5 ∨ i = 6 := by have : i < 7 := hi; omega
  rcases this with rfl | rfl | rfl | rfl | rfl | rfl | rfl <;> rfl
set_option maxRecDepth 100000 in
set_option maxHeartbeats 1000000 in
theorem mline_any (h : Dm w x g r y O p ns v S) :
    Calls Try.prog 92 #[.pointer (some ⟨x, 0, none⟩)] w fun e w' => e = .returned (.bool (S.dn || S.er)) ∧ w = w' := by
  have k6 := h.k6
  have e6 := sw_is6 S.bz S.dn S.er
  have HE := Lib.hid e6
  clear e6
  go_enter Try.func92, Try.ntmps92
  go_wp2
  go_ret
  exact ⟨ret_bool HE.out, rfl⟩
set_option maxRecDepth 100000 in
set_option maxHeartbeats 1000000 in
theorem mstart_no (now : Int) (h : Dm w x g r y O p ns v S) (hz : S.bz = true) :
    Calls Try.prog 96 #[.pointer (some ⟨x, 0, none⟩), .int .i64 now] w fun e w' => e = .returned (.tuple #[]) ∧ w = w' := by
  have k6 := h.k6
  obtain ⟨s, hs⟩ : ∃ s, sw S.bz S.dn S.er = s := ⟨_, rfl⟩
  have e1 := sw_is1 S.bz S.dn S.er
  rw [hs] at e1 k6
  rw [hz] at e1
  clear hs hz
  go_enter Try.func96, Try.ntmps96
  go_wp2
  refine bodyPost_ret (results_none rfl _ _ _) rfl ?_
  exact ⟨rfl, rfl⟩
set_option maxRecDepth 100000 in
set_option maxHeartbeats 1000000 in
theorem mstart_yes (now : Int) (h : Dm w x g r y O p ns v S) (hz : S.bz = false) (hl : S.L.length ≤ 990000) (ha : 0 ≤ S.a ∧ S.a ≤ 1000000) (c0 : 0 ≤ S.n) (c1 : S.n < 4294967296) (n0 : 0 ≤ now) (n1 : now ≤ 4611686018427387904) :
    Calls Try.prog 96 #[.pointer (some ⟨x, 0, none⟩), .int .i64 now] w (RetMv (.tuple #[]) w x g r y O p ns v (startM now S)) := by
  have k6 := h.k6
  have f6 := h.row.frozen 6
  have k5 := h.k5
  obtain ⟨s, hs⟩ : ∃ s, sw S.bz S.dn S.er = s := ⟨_, rfl⟩
  have e1 := sw_is1 S.bz S.dn S.er
  rw [hs] at e1 k6
  rw [hz] at e1
  obtain ⟨s2, hs2⟩ : ∃ s2, Hid (bits .or .u32 s 1 = s2) := ⟨_, Lib.hid rfl⟩
  have H1 : Hid (Dm (w.setCell ⟨x, 6, none⟩ (.int .u32 s2)) x g r y O p ns v { S with bz := true }) := h.setS s2 true S.dn S.er (by rw [← hs2.out, ← hs]; exact sw_or1 _ _ _)
  have C1 : CM x g O v v w (w.setCell ⟨x, 6, none⟩ (.int .u32 s2)) := CM.set x g O v w 6 (.int .u32 s2)
  clear hs hz
  by_cases hc : S.n ≤ 4096
  · obtain ⟨c, hC⟩ : ∃ c, S.n = c := ⟨_, rfl⟩
    rw [hC] at k5 c0 c1 hc
    obtain ⟨T, HT⟩ : ∃ T, Hid (IntKind.i64.wrap (now + IntKind.i64.wrap (c / 4 + 1)) = T) := ⟨_, Lib.hid rfl⟩
    have hT : T = now + (c / 4 + 1) := by rw [← HT.out, IntKind.wrap_i64, IntKind.wrap_i64]; omega
    have hok : okB 4 T = true := by unfold okB; apply decide_eq_true; omega
    have HA : Hid (startM now S = armS 4 T { S with bz := true }) := by show _ = _; unfold startM dl; rw [hT, hC, show min c 4096 = c by omega]
    clear hC
    clear n0 n1 hT
    go_enter Try.func96, Try.ntmps96
    go_wp2_with fail
    rw [hs2.out]
    generalize w.setCell ⟨x, 6, none⟩ (.int .u32 s2) = w1 at H1 C1 ⊢
    have h1 := H1.out
    have hd : Dm w1.drew x g r y O p ns v { S with bz := true } := h1.drewN 1
    have hdw : Wh 82 w1.drew g v (S.L) S.a := hd.wh
    have x0 : w1.drew.cell? ⟨x, 0, none⟩ = some (.int .i64 4) := hd.k0
    have x1 : w1.drew.cell? ⟨x, 1, none⟩ = some (.pointer (some ⟨g, 0, none⟩)) := hd.k1
    go_region_held3 (fun w' => w'.cell? ⟨x, 0, none⟩ = some (.int .i64 4) ∧ w'.cell? ⟨x, 1, none⟩ = some (.pointer (some ⟨g, 0, none⟩))) (first | with_reducible exact ⟨x0, x1⟩ | with_reducible exact ⟨y0, y1⟩)
      (first
        | (go_at_call 67; rw [HT.out]; (with_reducible refine (arm_S (W := w1.drew) 4 T hdw hok hl ha).mono ?_); rintro e w4 ⟨rfl, v4, hw4, hch4⟩; have h4 := hd.wheel hw4 hch4; have y0 := h4.k0; have y1 := h4.k1))
    go_wp2
    go_end0
    exact ⟨rfl, v4, by rw [HA.out]; exact h4, (C1.trans (CM.drewN x g O v w1 1)).trans (CM.of_ch hch4)⟩
  · obtain ⟨c, hC⟩ : ∃ c, S.n = c := ⟨_, rfl⟩
    rw [hC] at k5 c0 c1 hc
    obtain ⟨T, HT⟩ : ∃ T, Hid (IntKind.i64.wrap (now + IntKind.i64.wrap 1025) = T) := ⟨_, Lib.hid rfl⟩
    have hT : T = now + 1025 := by rw [← HT.out, IntKind.wrap_i64, IntKind.wrap_i64]; omega
    have hok : okB 4 T = true := by unfold okB; apply decide_eq_true; omega
    have HA : Hid (startM now S = armS 4 T { S with bz := true }) := by show _ = _; unfold startM dl; rw [hT, hC, show min c 4096 / 4 + 1 = 1025 by omega]
    clear hC
    clear n0 n1 hT
    go_enter Try.func96, Try.ntmps96
    go_wp2_with fail
    rw [hs2.out]
    generalize w.setCell ⟨x, 6, none⟩ (.int .u32 s2) = w1 at H1 C1 ⊢
    have h1 := H1.out
    have hd : Dm w1.drew x g r y O p ns v { S with bz := true } := h1.drewN 1
    have hdw : Wh 82 w1.drew g v (S.L) S.a := hd.wh
    have x0 : w1.drew.cell? ⟨x, 0, none⟩ = some (.int .i64 4) := hd.k0
    have x1 : w1.drew.cell? ⟨x, 1, none⟩ = some (.pointer (some ⟨g, 0, none⟩)) := hd.k1
    go_region_held3 (fun w' => w'.cell? ⟨x, 0, none⟩ = some (.int .i64 4) ∧ w'.cell? ⟨x, 1, none⟩ = some (.pointer (some ⟨g, 0, none⟩))) (first | with_reducible exact ⟨x0, x1⟩ | with_reducible exact ⟨y0, y1⟩)
      (first
        | (go_at_call 67; rw [HT.out]; (with_reducible refine (arm_S (W := w1.drew) 4 T hdw hok hl ha).mono ?_); rintro e w4 ⟨rfl, v4, hw4, hch4⟩; have h4 := hd.wheel hw4 hch4; have y0 := h4.k0; have y1 := h4.k1))
    go_wp2
    go_end0
    exact ⟨rfl, v4, by rw [HA.out]; exact h4, (C1.trans (CM.drewN x g O v w1 1)).trans (CM.of_ch hch4)⟩
end
section
variable {w : World} {x g r y : Nat} {O : Nat → Prop} {p ns : Nat} {v : Value} {S : BS}
set_option maxRecDepth 100000 in
set_option maxHeartbeats 1000000 in
theorem mwrite_any (k : Nat) (z u now : Int) (h : Dm w x g r y O p ns v S) (hk : k ≤ 15) (hz : z = (k : Int) * 4) (u0 : 0 ≤ u) (u1 : u < 4294967296) (hl : S.L.length ≤ 990000) (ha : 0 ≤ S.a ∧ S.a ≤ 1000000) (c0 : 0 ≤ S.n) (c1 : S.n < 4294967296) (n0 : 0 ≤ now) (n1 : now ≤ 4611686018427387904) :
    Calls Try.prog 94 #[.pointer (some ⟨x, 0, none⟩), .int .u32 z, .int .u32 u, .int .i64 now] w (RetMv (.bool (decide (k < 5))) w x g r y O p ns v (wrM k u now S)) := by
  have k3 := h.k3
  have k4 := h.k4
  have k5 := h.k5
  have f3 := h.row.frozen 3
  have f4 := h.row.frozen 4
  have f5 := h.row.frozen 5
  have f6 := h.row.frozen 6
  have k6 := h.k6
  match k with
  | 0 =>
    obtain rfl : z = 0 := by omega
    clear hz hk
    go_enter Try.func94, Try.ntmps94
    go_wp2
    go_ret
    exact ⟨rfl, v, h.setF u, CM.set x g O v w 3 _⟩
  | 1 =>
    obtain rfl : z = 4 := by omega
    clear hz hk
    go_enter Try.func94, Try.ntmps94
    go_wp2
    go_ret
    exact ⟨rfl, v, h.setT u, CM.set x g O v w 4 _⟩
  | 2 =>
    obtain rfl : z = 8 := by omega
    clear hz hk
    go_enter Try.func94, Try.ntmps94
    go_wp2
    go_ret
    exact ⟨rfl, v, h.setN u, CM.set x g O v w 5 _⟩
  | 3 =>
    obtain rfl : z = 12 := by omega
    clear hz hk
    have hv := v_and1 u u0 u1
    by_cases h1 : u % 2 = 1
    · rw [h1] at hv
      have hv2 : (bits .and .u32 u 1 != 0) = true := by rw [hv]; rfl
      clear hv
      cases hb : S.bz
      · have HA : Hid (wrM 3 u now S = startM now S) := by show ctlM u now S = _; unfold ctlM; rw [if_pos ⟨h1, hb⟩]
        clear h1
        go_enter Try.func94, Try.ntmps94
        go_wp2_with fail
        with_reducible refine (mstart_yes now h hb hl ha c0 c1 n0 n1).mono ?_
        rintro e w1 ⟨rfl, v1, h1, hc⟩
        go_wp2
        go_ret
        exact ⟨rfl, v1, by rw [HA.out]; exact h1, hc⟩
      · have HA : Hid (wrM 3 u now S = S) := by show ctlM u now S = _; unfold ctlM; rw [if_neg (by rw [hb]; simp)]
        clear h1
        go_enter Try.func94, Try.ntmps94
        go_wp2_with fail
        with_reducible refine (mstart_no now h hb).mono ?_
        rintro e w1 ⟨rfl, rfl⟩
        go_wp2
        go_ret
        exact ⟨rfl, v, by rw [HA.out]; exact h, CM.refl _ _ _ _ _⟩
    · have hv2 : (bits .and .u32 u 1 != 0) = false := by rw [hv, show u % 2 = 0 by omega]; rfl
      clear hv
      have HA : Hid (wrM 3 u now S = S) := by show ctlM u now S = _; unfold ctlM; rw [if_neg (fun e => h1 e.1)]
      go_enter Try.func94, Try.ntmps94
      go_wp2
      go_ret
      exact ⟨rfl, v, by rw [HA.out]; exact h, CM.refl _ _ _ _ _⟩
  | 4 =>
    obtain rfl : z = 16 := by omega
    clear hz hk
    obtain ⟨s, hs⟩ : ∃ s, sw S.bz S.dn S.er = s := ⟨_, rfl⟩
    rw [hs] at k6
    obtain ⟨m, hm⟩ : ∃ m, Hid (bits .and .u32 u 6 = m) := ⟨_, Lib.hid rfl⟩
    obtain ⟨s2, hs2⟩ : ∃ s2, Hid (bits .andNot .u32 s m = s2) := ⟨_, Lib.hid rfl⟩
    have H1 : Hid (Dm (w.setCell ⟨x, 6, none⟩ (.int .u32 s2)) x g r y O p ns v { S with dn := S.dn && !decide (u / 2 % 2 = 1), er := S.er && !decide (u / 4 % 2 = 1) }) := h.setS s2 S.bz (S.dn && !decide (u / 2 % 2 = 1)) (S.er && !decide (u / 4 % 2 = 1)) (by rw [← hs2.out, ← hm.out, ← hs, v_and6 u u0 u1]; exact sw_clr _ _ _ _ _)
    clear hs
    go_enter Try.func94, Try.ntmps94
    go_wp2
    rw [hm.out, hs2.out]
    go_ret
    exact ⟨rfl, v, H1.out, CM.set x g O v w 6 _⟩
  | k + 5 =>
    have HA : Hid (wrM (k + 5) u now S = S) := Lib.hid rfl
    have HZ : Hid (decide (k + 5 < 5) = false) := Lib.hid (decide_eq_false (by omega))
    have z0 : (z == 0) = false := beq_false_of_ne (by omega)
    have z1 : (z == 4) = false := beq_false_of_ne (by omega)
    have z2 : (z == 8) = false := beq_false_of_ne (by omega)
    have z3 : (z == 12) = false := beq_false_of_ne (by omega)
    have z4 : (z == 16) = false := beq_false_of_ne (by omega)
    clear hz hk
    go_enter Try.func94, Try.ntmps94
    go_wp2
    go_ret
    exact ⟨by rw [HZ.out]; rfl, v, by rw [HA.out]; exact h, CM.refl _ _ _ _ _⟩
set_option maxRecDepth 100000 in
set_option maxHeartbeats 1000000 in
theorem mread_any (k : Nat) (z : Int) (h : Dm w x g r y O p ns v S) (hk : k ≤ 15) (hz : z = (k : Int) * 4) :
    Calls Try.prog 93 #[.pointer (some ⟨x, 0, none⟩), .int .u32 z] w fun e w' => e = .returned (.tuple #[.int .u32 (wordM k S), .bool (decide (k < 5))]) ∧ w = w' := by
  have k3 := h.k3
  have k4 := h.k4
  have k5 := h.k5
  have k6 := h.k6
  by_cases h5 : 5 ≤ k
  · have HA : Hid (wordM k S = 0) := by
      show _ = _
      match k, h5 with
      | k + 5, _ => rfl
    have HZ : Hid (decide (k < 5) = false) := Lib.hid (decide_eq_false (by omega))
    have z0 : (z == 0) = false := beq_false_of_ne (by omega)
    have z1 : (z == 4) = false := beq_false_of_ne (by omega)
    have z2 : (z == 8) = false := beq_false_of_ne (by omega)
    have z3 : (z == 12) = false := beq_false_of_ne (by omega)
    have z4 : (z == 16) = false := beq_false_of_ne (by omega)
    clear hz hk h5
    go_enter Try.func93, Try.ntmps93
    go_wp2
    go_ret2
    exact ⟨by rw [HA.out, HZ.out]; rfl, rfl⟩
  have hz2 : k = 0 ∧ z = 0 ∨ k = 1 ∧ z = 4 ∨ k = 2 ∧ z = 8 ∨ k = 3 ∧ z = 12 ∨ k = 4 ∧ z = 16 := by omega
  clear hz hk h5
  rcases hz2 with ⟨rfl, rfl⟩ | ⟨rfl, rfl⟩ | ⟨rfl, rfl⟩ | ⟨rfl, rfl⟩ | ⟨rfl, rfl⟩
  all_goals
    go_enter Try.func93, Try.ntmps93
    go_wp2
    go_ret2
    exact ⟨rfl, rfl⟩
/-- what is moved, if it may be -/
def movN (p : Nat) (S : BS) : Nat → Int := match movB p S with
  | true => movC S
  | false => S.C
set_option maxRecDepth 100000 in
set_option maxHeartbeats 1000000 in
theorem mmove_any (h : Dm w x g r y O p ns v S) (f0 : 0 ≤ S.f) (f1 : S.f < 4294967296) (t0 : 0 ≤ S.t) (t1 : S.t < 4294967296) (c0 : 0 ≤ S.n) (c1 : S.n < 4294967296) :
    Calls Try.prog 95 #[.pointer (some ⟨x, 0, none⟩)] w (RetMv (.bool (movB p S)) w x g r y O p ns v { S with C := movN p S }) := by
  have k5 := h.k5
  by_cases hc : S.n ≤ 4096
  · have hd : Dm w.drew x g r y O p ns v S := h.drewN 1
    have hm : Mk 63 w.drew r y O p ns S.C S.D := hd.mm
    obtain ⟨F, hF⟩ : ∃ F, S.f = F := ⟨_, rfl⟩
    obtain ⟨T, hT⟩ : ∃ T, S.t = T := ⟨_, rfl⟩
    obtain ⟨c, hC⟩ : ∃ c : Nat, S.n = c := ⟨S.n.toNat, by omega⟩
    have x2 : w.drew.cell? ⟨x, 2, none⟩ = some (.pointer (some ⟨r, 0, none⟩)) := hd.k2
    have x3 : w.drew.cell? ⟨x, 3, none⟩ = some (.int .u32 F) := hF ▸ hd.k3
    have x5 : w.drew.cell? ⟨x, 5, none⟩ = some (.int .u32 c) := hC ▸ hd.k5
    have HB : Hid (movB p S = (inB p F c && inB p T c)) := by show _ = _; unfold movB; rw [decide_eq_true hc, hF, hT, hC]; rfl
    have HM : Hid (movC S = putC S.C T.toNat c (fun i => S.C (F.toNat + i))) := by show _ = _; unfold movC; rw [hF, hT, hC]; rfl
    have k4 : ∀ {w1 : World}, Dm w1 x g r y O p ns v S → w1.cell? ⟨x, 4, none⟩ = some (.int .u32 T) := fun h1 => hT ▸ h1.k4
    rw [hF] at f0 f1
    rw [hT] at t0 t1
    rw [hC] at hc k5
    clear hF hT hC c0 c1
    have HW : Hid (IntKind.i64.wrap (c : Int) = c) := by show _ = _; rw [IntKind.wrap_i64]; omega
    go_enter Try.func95, Try.ntmps95
    go_wp2_with fail
    go_region_held3 (fun w' => w'.cell? ⟨x, 2, none⟩ = some (.pointer (some ⟨r, 0, none⟩)) ∧ w'.cell? ⟨x, 3, none⟩ = some (.int .u32 F) ∧ w'.cell? ⟨x, 5, none⟩ = some (.int .u32 c)) (first | with_reducible exact ⟨x2, x3, x5⟩ | with_reducible exact ⟨y2, y3, y5⟩)
      (first
        | (go_at_call 84; rw [HW.out]; (with_reducible refine (kbytes_any (w := w.drew) F c hm f0 f1 (by omega) (by omega)).mono ?_); rintro e w4 ⟨u, rfl, hB, hF4⟩; have h4 := hd.no hF4; have y2 := h4.k2; have y3 : w4.cell? ⟨x, 3, none⟩ = some (.int .u32 F) := (cell_fr hF4 x3 id); have y5 : w4.cell? ⟨x, 5, none⟩ = some (.int .u32 c) := (cell_fr hF4 x5 id)))
    cases hi : inB p F c
    · have HI := Lib.hid hi
      have HN : Hid (movB p S = false) := by show _ = _; rw [HB.out, hi]; rfl
      clear hi
      go_wp2_with fail
      go_region
      all_goals
        go_wp2
        go_ret
        exact ⟨by rw [HN.out]; rfl, v, by unfold movN; rw [HN.out]; exact h4.drewN 1, ((CM.drewN x g O v w 1).trans (CM.of_no hF4)).trans (CM.drewN x g O v w4 1)⟩
    · have HI := Lib.hid hi
      have hcn : cnt p F c = c := by unfold cnt; rw [hi]; rfl
      rw [hcn] at hB
      have HN : Hid (movB p S = inB p T c) := by show _ = _; rw [HB.out, hi]; rfl
      have HU : Hid ({ S with C := movN p S } = { S with C := uC p S.C T c (fun i => S.C (F.toNat + i)) }) := by
        show _ = _
        unfold movN uC
        rw [HN.out]
        cases inB p T c
        · rfl
        · exact congrArg (fun C => { S with C := C }) HM.out
      clear hi hcn
      have h5 : Dm w4.drew x g r y O p ns v S := h4.drewN 1
      have hm5 : Mk 63 w4.drew r y O p ns S.C S.D := h5.mm
      have hB5 : ByAt (fun k => w.drew.heap.size ≤ k) w4.drew u c (fun i => S.C (F.toNat + i)) := hB.fr ((Fr.refl (fun _ => False) w4).drewN 1) (fun _ _ _ => id)
      have x2 : w4.drew.cell? ⟨x, 2, none⟩ = some (.pointer (some ⟨r, 0, none⟩)) := h5.k2
      have x4 : w4.drew.cell? ⟨x, 4, none⟩ = some (.int .u32 T) := k4 h5
      go_wp2_with fail
      go_region_held3 (fun w' => w'.cell? ⟨x, 2, none⟩ = some (.pointer (some ⟨r, 0, none⟩)) ∧ w'.cell? ⟨x, 4, none⟩ = some (.int .u32 T)) (first | with_reducible exact ⟨x2, x4⟩ | with_reducible exact ⟨y2, y4⟩)
        (first
          | (go_at_call 11; (with_reducible refine (kput_any (w := w4.drew) T u c (fun i => S.C (F.toNat + i)) hm5 hB5 t0 t1 (by omega)).mono ?_); rintro e w6 ⟨rfl, hm6, hF6⟩; have h6 := h5.mem hm6 hF6; have y2 := h6.k2; have y4 : w6.cell? ⟨x, 4, none⟩ = some (.int .u32 T) := (cell_fr hF6 x4 h5.xm)))
      go_wp2
      go_ret
      exact ⟨by rw [HN.out]; rfl, v, by rw [HU.out]; exact h6, (((CM.drewN x g O v w 1).trans (CM.of_no hF4)).trans (CM.drewN x g O v w4 1)).trans (CM.of_mem hF6)⟩
  · have HN : Hid (movB p S = false) := by show _ = _; unfold movB; rw [decide_eq_false hc]; rfl
    go_enter Try.func95, Try.ntmps95
    go_wp2
    go_ret
    exact ⟨by rw [HN.out]; rfl, v, by unfold movN; rw [HN.out]; exact h, CM.refl _ _ _ _ _⟩
set_option maxRecDepth 100000 in
set_option maxHeartbeats 1000000 in
theorem mfire_any (now : Int) (h : Dm w x g r y O p ns v S) (f0 : 0 ≤ S.f) (f1 : S.f < 4294967296) (t0 : 0 ≤ S.t) (t1 : S.t < 4294967296) (c0 : 0 ≤ S.n) (c1 : S.n < 4294967296) :
    Calls Try.prog 91 #[.pointer (some ⟨x, 0, none⟩), .int .i64 now] w (RetMv (.tuple #[]) w x g r y O p ns v (fiM p S)) := by
  have k6 := h.k6
  have f6 := h.row.frozen 6
  obtain ⟨s, hs⟩ : ∃ s, sw S.bz S.dn S.er = s := ⟨_, rfl⟩
  rw [hs] at k6
  obtain ⟨s2, hs2⟩ : ∃ s2, Hid (bits .andNot .u32 s 1 = s2) := ⟨_, Lib.hid rfl⟩
  obtain ⟨s3, hs3⟩ : ∃ s3, Hid (bits .or .u32 s2 2 = s3) := ⟨_, Lib.hid rfl⟩
  have e2 : s2 = sw false S.dn S.er := by rw [← hs2.out, ← hs]; exact sw_not1 _ _ _
  have e3 : s3 = sw false true S.er := by rw [← hs3.out, e2]; exact sw_or2 _ _ _
  have h2 := h.setS s2 false S.dn S.er e2
  have H3 : Hid (Dm ((w.setCell ⟨x, 6, none⟩ (.int .u32 s2)).setCell ⟨x, 6, none⟩ (.int .u32 s3)) x g r y O p ns v { S with bz := false, dn := true }) := h2.setS s3 false true S.er e3
  have C3 : CM x g O v v w ((w.setCell ⟨x, 6, none⟩ (.int .u32 s2)).setCell ⟨x, 6, none⟩ (.int .u32 s3)) := (CM.set x g O v w 6 _).trans (CM.set x g O v _ 6 _)
  have E3 := Lib.hid e3
  clear hs e2 e3 h2
  cases hb : movB p S
  · have HM : Hid (movB p { S with bz := false, dn := true } = false) := hb
    have HF : Hid (fiM p S = { S with bz := false, dn := true, er := true }) := by show _ = _; unfold fiM; rw [hb]
    have HC : Hid (movN p { S with bz := false, dn := true } = S.C) := by show _ = _; unfold movN; rw [HM.out]
    clear hb
    go_enter Try.func91, Try.ntmps91
    go_wp2_with fail
    rw [hs2.out, hs3.out]
    generalize (w.setCell ⟨x, 6, none⟩ (.int .u32 s2)).setCell ⟨x, 6, none⟩ (.int .u32 s3) = w3 at H3 C3 ⊢
    with_reducible refine (mmove_any H3.out f0 f1 t0 t1 c0 c1).mono ?_
    rintro e w4 ⟨rfl, v4, h4, hc4⟩
    rw [HC.out] at h4
    rw [HM.out]
    have k6' := h4.k6
    have f6' := h4.row.frozen 6
    obtain ⟨s4, hs4⟩ : ∃ s4, sw false true S.er = s4 := ⟨_, rfl⟩
    obtain ⟨s5, hs5⟩ : ∃ s5, Hid (bits .or .u32 s4 4 = s5) := ⟨_, Lib.hid rfl⟩
    have H5 : Hid (Dm (w4.setCell ⟨x, 6, none⟩ (.int .u32 s5)) x g r y O p ns v4 { S with bz := false, dn := true, er := true }) := h4.setS s5 false true true (by rw [← hs5.out, ← hs4]; exact sw_or4 _ _ _)
    have k7 : w4.cell? ⟨x, 6, none⟩ = some (.int .u32 s4) := by rw [← hs4]; exact k6'
    clear hs4 k6'
    go_wp2
    rw [hs5.out]
    go_end0
    exact ⟨rfl, v4, by rw [HF.out]; exact H5.out, (C3.trans hc4).trans (CM.set x g O v4 w4 6 _)⟩
  · have HM : Hid (movB p { S with bz := false, dn := true } = true) := hb
    have HF : Hid (fiM p S = { S with bz := false, dn := true, C := movC S }) := by show _ = _; unfold fiM; rw [hb]
    have HC : Hid (movN p { S with bz := false, dn := true } = movC S) := by show _ = _; unfold movN; rw [HM.out]; rfl
    clear hb
    go_enter Try.func91, Try.ntmps91
    go_wp2_with fail
    rw [hs2.out, hs3.out]
    generalize (w.setCell ⟨x, 6, none⟩ (.int .u32 s2)).setCell ⟨x, 6, none⟩ (.int .u32 s3) = w3 at H3 C3 ⊢
    with_reducible refine (mmove_any H3.out f0 f1 t0 t1 c0 c1).mono ?_
    rintro e w4 ⟨rfl, v4, h4, hc4⟩
    rw [HC.out] at h4
    rw [HM.out]
    go_wp2
    go_end0
    exact ⟨rfl, v4, by rw [HF.out]; exact h4, C3.trans hc4⟩
end
end Go.Proofs.Ytkfedihaldpgmaa
