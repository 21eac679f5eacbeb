/-
  Chapter 15: a disk in memory, in the one state; the functions of package disk.
-/
import Derived.Test.YtkfedihaldpgmaaGreatDm15
import Derived.Lib.AppendZerosOnto
namespace Go.Proofs.YtkfedihaldpgmaaGreat
open Go.RowKit
set_option linter.unusedVariables false
set_option linter.unusedSimpArgs false
def wordK (k : Nat) (S : BS) : Int := match k with
  | 0 => S.z
  | 1 => S.kt
  | 2 => S.kc
  | 3 => sw S.kz S.kd S.ke
  | _ => 0
def doX (p n : Nat) (S : BS) : BS := match okX p n S with
  | true => doK S
  | false => S
def dk8 (d : Int) (g r y n : Nat) (z t c s : Int) : Nat → Value
  | 0 => .int .i64 d
  | 1 => .pointer (some ⟨g, 0, none⟩)
  | 2 => .pointer (some ⟨r, 0, none⟩)
  | 3 => .slice (some ⟨y, 0, none⟩) (64 * n) (64 * n)
  | 4 => .int .u32 z
  | 5 => .int .u32 t
  | 6 => .int .u32 c
  | _ => .int .u32 s
/-- block x is a disk of device d on the wheel in block g (its slice: v), the memory in block r, of p pages, and its bytes in block y, of n sectors (their blocks: O); it is S -/
structure Dk (w : World) (x g r y : Nat) (O : Nat → Prop) (p n : Nat) (v : Value) (S : BS) : Prop where
  row : w.rowIs x 134 8 (dk8 5 g r y n S.z S.kt S.kc (sw S.kz S.kd S.ke))
  wh : Wh 125 w g v (S.L) S.a
  mm : Mk 103 w r y O p n S.C S.D
  xw : ¬ Own g v x
  xm : ¬ O x
  wm : ∀ k, Own g v k → ¬ O k
def OwnDk (x g : Nat) (O : Nat → Prop) (v : Value) (k : Nat) : Prop := k = x ∨ Own g v k ∨ O k
/-- of what was there the mover's own blocks alone have turned -/
structure CK (x g : Nat) (O : Nat → Prop) (v v2 : Value) (w w' : World) : Prop where
  fr : Fr (OwnDk x g O v) w w'
  nw : ∀ k, v2.ownBlock = some k → v.ownBlock = some k ∨ w.heap.size ≤ k
section
variable {w w' w1 w2 : World} {x g r y : Nat} {O : Nat → Prop} {p n : Nat} {v v2 v3 : Value} {S S2 : BS}
theorem CK.refl (x g : Nat) (O : Nat → Prop) (v : Value) (w : World) : CK x g O v v w w := ⟨Fr.refl _ _, fun _ h => .inl h⟩
theorem CK.of_ch (h : Ch g v v2 w w') : CK x g O v v2 w w' := ⟨h.fr.mono (fun _ e => .inr (.inl e)), h.nw⟩
theorem CK.of_mem (h : Fr O w w') : CK x g O v v w w' := ⟨h.mono (fun _ e => .inr (.inr e)), fun _ h => .inl h⟩
theorem CK.of_below (b : Below w.heap.size w w') : CK x g O v v w w' := ⟨Fr.of_below b, fun _ h => .inl h⟩
theorem CK.of_no (b : Fr (fun _ => False) w w') : CK x g O v v w w' := ⟨b.mono (fun _ e => e.elim), fun _ h => .inl h⟩
theorem CK.trans (h : CK x g O v v2 w w1) (k : CK x g O v2 v3 w1 w2) : CK x g O v v3 w w2 := by
  refine ⟨⟨k.fr.os.trans h.fr.os, k.fr.tape.trans h.fr.tape, k.fr.output.trans h.fr.output, Nat.le_trans h.fr.size k.fr.size, fun i hi hn => ?_⟩, fun i hi => ?_⟩
  · refine (k.fr.block i (Nat.lt_of_lt_of_le hi h.fr.size) ?_).trans (h.fr.block i hi hn)
    rintro (e | (e | e) | e)
    · exact hn (.inl e)
    · exact hn (.inr (.inl (.inl e)))
    · rcases h.nw i e with e | e
      · exact hn (.inr (.inl (.inr e)))
      · omega
    · exact hn (.inr (.inr e))
  · rcases k.nw i hi with e | e
    · exact h.nw i e
    · exact .inr (Nat.le_trans h.fr.size e)
theorem CK.set (x g : Nat) (O : Nat → Prop) (v : Value) (w : World) (i : Nat) (u : Value) : CK x g O v v w (w.setCell ⟨x, i, none⟩ u) := ⟨(Fr.refl (OwnDk x g O v) w).setCell (x := ⟨x, i, none⟩) (.inl (show OwnDk x g O v x from .inl rfl)) u, fun _ h => .inl h⟩
theorem CK.drewN (x g : Nat) (O : Nat → Prop) (v : Value) (w : World) (n : Nat) : CK x g O v v w (w.drewN n) := ⟨(Fr.refl (OwnDk x g O v) w).drewN n, fun _ h => .inl h⟩
/-- its own blocks behind: its own ahead, or new -/
theorem CK.own (c : CK x g O v v2 w w1) : ∀ k, OwnDk x g O v2 k → OwnDk x g O v k ∨ w.heap.size ≤ k := by
  rintro k (e | (e | e) | e)
  · exact .inl (.inl e)
  · exact .inl (.inr (.inl (.inl e)))
  · rcases c.nw k e with e | e
    · exact .inl (.inr (.inl (.inr e)))
    · exact .inr e
  · exact .inl (.inr (.inr e))
theorem Dk.k0 (h : Dk w x g r y O p n v S) : w.cell? ⟨x, 0, none⟩ = some (.int .i64 5) := h.row.cell (i := 0) (by omega)
theorem Dk.k1 (h : Dk w x g r y O p n v S) : w.cell? ⟨x, 1, none⟩ = some (.pointer (some ⟨g, 0, none⟩)) := h.row.cell (i := 1) (by omega)
theorem Dk.k2 (h : Dk w x g r y O p n v S) : w.cell? ⟨x, 2, none⟩ = some (.pointer (some ⟨r, 0, none⟩)) := h.row.cell (i := 2) (by omega)
theorem Dk.k3 (h : Dk w x g r y O p n v S) : w.cell? ⟨x, 3, none⟩ = some (.slice (some ⟨y, 0, none⟩) (64 * n) (64 * n)) := h.row.cell (i := 3) (by omega)
theorem Dk.k4 (h : Dk w x g r y O p n v S) : w.cell? ⟨x, 4, none⟩ = some (.int .u32 S.z) := h.row.cell (i := 4) (by omega)
theorem Dk.k5 (h : Dk w x g r y O p n v S) : w.cell? ⟨x, 5, none⟩ = some (.int .u32 S.kt) := h.row.cell (i := 5) (by omega)
theorem Dk.k6 (h : Dk w x g r y O p n v S) : w.cell? ⟨x, 6, none⟩ = some (.int .u32 S.kc) := h.row.cell (i := 6) (by omega)
theorem Dk.k7 (h : Dk w x g r y O p n v S) : w.cell? ⟨x, 7, none⟩ = some (.int .u32 (sw S.kz S.kd S.ke)) := h.row.cell (i := 7) (by omega)
theorem Dk.fr {Q : Nat → Prop} (h : Dk w x g r y O p n v S) (f : Fr Q w w') (hs : ∀ k, OwnDk x g O v k → ¬ Q k) : Dk w' x g r y O p n v S :=
  ⟨h.row.of_block (f.block _ h.row.lt (hs x (.inl rfl))), h.wh.fr f (fun k hk => hs k (.inr (.inl hk))), h.mm.fr f (fun k hk => hs k (.inr (.inr hk))), h.xw, h.xm, h.wm⟩
theorem Dk.lt (h : Dk w x g r y O p n v S) : ∀ k, OwnDk x g O v k → k < w.heap.size := by
  rintro k (rfl | hk | hk)
  · exact h.row.lt
  · exact h.wh.lt k hk
  · exact h.mm.lt k hk
theorem Dk.drewN (h : Dk w x g r y O p n v S) (k : Nat) : Dk (w.drewN k) x g r y O p n v S := h.fr ((Fr.refl (fun _ => False) w).drewN k) (fun _ _ => id)
theorem Dk.no (h : Dk w x g r y O p n v S) (f : Fr (fun _ => False) w w') : Dk w' x g r y O p n v S := h.fr f (fun _ _ => id)
theorem Dk.below (h : Dk w x g r y O p n v S) (b : Below w.heap.size w w') : Dk w' x g r y O p n v S := h.no (Fr.of_below (S := fun _ => False) b)
/-- its wheel is another one -/
theorem Dk.wheel (h : Dk w x g r y O p n v S) {L : List Ev} {a : Int} (hw : Wh 125 w' g v2 L a) (hch : Ch g v v2 w w') : Dk w' x g r y O p n v2 { S with L := L, a := a } := by
  refine ⟨h.row.of_block (hch.fr.block _ h.row.lt h.xw), hw, h.mm.fr hch.fr (fun k hk e => h.wm k e hk), ?_, h.xm, ?_⟩
  · rintro (e | e)
    · exact h.xw (.inl e)
    · rcases hch.nw _ e with e | e
      · exact h.xw (.inr e)
      · have := h.row.lt; omega
  · rintro k (e | e)
    · exact h.wm k (.inl e)
    · rcases hch.nw _ e with e | e
      · exact h.wm k (.inr e)
      · intro ho; have := h.mm.lt k ho; omega
/-- its memory or its own bytes have turned -/
theorem Dk.mem (h : Dk w x g r y O p n v S) {C D : Nat → Int} (hm : Mk 103 w' r y O p n C D) (f : Fr O w w') : Dk w' x g r y O p n v { S with C := C, D := D } :=
  ⟨h.row.of_block (f.block _ h.row.lt h.xm), h.wh.fr f (fun k hk => h.wm k hk), hm, h.xw, h.xm, h.wm⟩
theorem Dk.same (h : Dk w x g r y O p n v S) (hr : w'.rowIs y 5 (64 * n) (fun i => .int .u8 (S.D i))) (hf : Fr (fun k => k = y) w w') : Dk w' x g r y O p n v { S with C := S.C, D := S.D } := h.mem (h.mm.same hr hf) (h.mm.fr_row hf)
theorem Dk.setX (h : Dk w x g r y O p n v S) (i : Nat) (u : Value) (z t c : Int) (bz dn er : Bool) (hu : ∀ j, j < 8 → (if j = i then u else dk8 5 g r y n S.z S.kt S.kc (sw S.kz S.kd S.ke) j) = dk8 5 g r y n z t c (sw bz dn er) j) :
    Dk (w.setCell ⟨x, i, none⟩ u) x g r y O p n v { S with z := z, kt := t, kc := c, kz := bz, kd := dn, ke := er } := by
  have fr : Fr (fun k => k = x) w (w.setCell ⟨x, i, none⟩ u) := (Fr.refl (fun k => k = x) w).setCell (x := ⟨x, i, none⟩) (.inl rfl) u
  exact ⟨(h.row.set i u).congr hu, h.wh.fr fr (fun k hk e => h.xw (e ▸ hk)), h.mm.fr fr (fun k hk e => h.xm (e ▸ hk)), h.xw, h.xm, h.wm⟩
theorem Dk.setZ (h : Dk w x g r y O p n v S) (u : Int) : Dk (w.setCell ⟨x, 4, none⟩ (.int .u32 u)) x g r y O p n v { S with z := u } :=
  h.setX 4 (.int .u32 u) u S.kt S.kc S.kz S.kd S.ke (fun j hj => by
    have : j = 0 ∨ j = 1 ∨ j = 2 ∨ j = 3 ∨ j = 4 ∨ j = 5 ∨ j = 6 ∨ j = 7 := by omega
    rcases this with rfl | rfl | rfl | rfl | rfl | rfl | rfl | rfl <;> rfl)
theorem Dk.setT (h : Dk w x g r y O p n v S) (u : Int) : Dk (w.setCell ⟨x, 5, none⟩ (.int .u32 u)) x g r y O p n v { S with kt := u } :=
  h.setX 5 (.int .u32 u) S.z u S.kc S.kz S.kd S.ke (fun j hj => by
    have : j = 0 ∨ j = 1 ∨ j = 2 ∨ j = 3 ∨ j = 4 ∨ j = 5 ∨ j = 6 ∨ j = 7 := by omega
    rcases this with rfl | rfl | rfl | rfl | rfl | rfl | rfl | rfl <;> rfl)
theorem Dk.setN (h : Dk w x g r y O p n v S) (u : Int) : Dk (w.setCell ⟨x, 6, none⟩ (.int .u32 u)) x g r y O p n v { S with kc := u } :=
  h.setX 6 (.int .u32 u) S.z S.kt u S.kz S.kd S.ke (fun j hj => by
    have : j = 0 ∨ j = 1 ∨ j = 2 ∨ j = 3 ∨ j = 4 ∨ j = 5 ∨ j = 6 ∨ j = 7 := by omega
    rcases this with rfl | rfl | rfl | rfl | rfl | rfl | rfl | rfl <;> rfl)
theorem Dk.setS (h : Dk w x g r y O p n v S) (u : Int) (bz dn er : Bool) (hn : u = sw bz dn er) : Dk (w.setCell ⟨x, 7, none⟩ (.int .u32 u)) x g r y O p n v { S with kz := bz, kd := dn, ke := er } := by
  subst hn
  exact h.setX 7 (.int .u32 (sw bz dn er)) S.z S.kt S.kc bz dn er (fun j hj => by
    have : j = 0 ∨ j = 1 ∨ j = 2 ∨ j = 3 ∨ j = 4 ∨ j = 5 ∨ j = 6 ∨ j = 7 := by omega
    rcases this with rfl | rfl | rfl | rfl | rfl | rfl | rfl | rfl <;> rfl)
end
def RetDk (u : Value) (w : World) (x g r y : Nat) (O : Nat → Prop) (p n : Nat) (v : Value) (S2 : BS) (e : Ending) (w' : World) : Prop :=
  e = .returned u ∧ ∃ v2, Dk w' x g r y O p n v2 S2 ∧ CK x g O v v2 w w'
theorem wrap_small {k : Int} (h0 : 0 ≤ k) (h1 : k ≤ 4611686018427387904) : IntKind.i64.wrap k = k := by rw [IntKind.wrap_i64]; omega
section
variable {w : World} {x g r y : Nat} {O : Nat → Prop} {p n : Nat} {v : Value} {S : BS}
set_option maxRecDepth 100000 in
set_option maxHeartbeats 1000000 in
theorem zsect_any (h : Dk w x g r y O p n v S) (hn : n ≤ 64) :
    Calls Tryz.prog 128 #[.pointer (some ⟨x, 0, none⟩)] w fun e w' => e = .returned (.int .i64 n) ∧ w = w' := by
  have k3 := h.k3
  go_enter Tryz.func128, Tryz.ntmps128
  go_wp2
  go_ret
  exact ⟨ret_int (by omega), rfl⟩
set_option maxRecDepth 100000 in
set_option maxHeartbeats 1000000 in
theorem zline_any (h : Dk w x g r y O p n v S) :
    Calls Tryz.prog 123 #[.pointer (some ⟨x, 0, none⟩)] w fun e w' => e = .returned (.bool (S.kd || S.ke)) ∧ w = w' := by
  have k7 := h.k7
  have e6 := sw_is6 S.kz S.kd S.ke
  have HE := Lib.hid e6
  clear e6
  go_enter Tryz.func123, Tryz.ntmps123
  go_wp2
  go_ret
  exact ⟨ret_bool HE.out, rfl⟩
set_option maxRecDepth 100000 in
set_option maxHeartbeats 1000000 in
theorem zread_any (k : Nat) (z : Int) (h : Dk w x g r y O p n v S) (hk : k ≤ 15) (hz : z = (k : Int) * 4) :
    Calls Tryz.prog 124 #[.pointer (some ⟨x, 0, none⟩), .int .u32 z] w fun e w' => e = .returned (.tuple #[.int .u32 (wordK k S), .bool (decide (k < 4))]) ∧ w = w' := by
  have k4 := h.k4
  have k5 := h.k5
  have k6 := h.k6
  have k7 := h.k7
  by_cases h5 : 4 ≤ k
  · have HA : Hid (wordK k S = 0) := by
      show _ = _
      match k, h5 with
      | k + 4, _ => rfl
    have HZ : Hid (decide (k < 4) = false) := Lib.hid (decide_eq_false (by omega))
    have z0 : (z == 0) = false := beq_false_of_ne (by omega)
    have z1 : (z == 4) = false := beq_false_of_ne (by omega)
    have z2 : (z == 8) = false := beq_false_of_ne (by omega)
    have z3 : (z == 12) = false := beq_false_of_ne (by omega)
    clear hz hk h5
    go_enter Tryz.func124, Tryz.ntmps124
    go_wp2
    go_ret2
    exact ⟨by rw [HA.out, HZ.out]; rfl, rfl⟩
  have hz2 : k = 0 ∧ z = 0 ∨ k = 1 ∧ z = 4 ∨ k = 2 ∧ z = 8 ∨ k = 3 ∧ z = 12 := by omega
  clear hz hk h5
  rcases hz2 with ⟨rfl, rfl⟩ | ⟨rfl, rfl⟩ | ⟨rfl, rfl⟩ | ⟨rfl, rfl⟩
  all_goals
    go_enter Tryz.func124, Tryz.ntmps124
    go_wp2
    go_ret2
    exact ⟨rfl, rfl⟩
set_option maxRecDepth 100000 in
set_option maxHeartbeats 1000000 in
theorem zst_no (u now : Int) (h : Dk w x g r y O p n v S) (hz : S.kz = true) :
    Calls Tryz.prog 127 #[.pointer (some ⟨x, 0, none⟩), .int .u32 u, .int .i64 now] w fun e w' => e = .returned (.tuple #[]) ∧ w = w' := by
  have k7 := h.k7
  obtain ⟨s, hs⟩ : ∃ s, sw S.kz S.kd S.ke = s := ⟨_, rfl⟩
  have e1 := sw_is1 S.kz S.kd S.ke
  rw [hs] at e1 k7
  rw [hz] at e1
  clear hs hz
  go_enter Tryz.func127, Tryz.ntmps127
  go_wp2
  refine bodyPost_ret (results_none rfl _ _ _) rfl ?_
  exact ⟨rfl, rfl⟩
set_option maxRecDepth 100000 in
set_option maxHeartbeats 1000000 in
theorem zst_yes (u now : Int) (h : Dk w x g r y O p n v S) (hz : S.kz = false) (hl : S.L.length ≤ 990000) (ha : 0 ≤ S.a ∧ S.a ≤ 1000000) (n0 : 0 ≤ now) (n1 : now ≤ 4611686018427387000) :
    Calls Tryz.prog 127 #[.pointer (some ⟨x, 0, none⟩), .int .u32 u, .int .i64 now] w (RetDk (.tuple #[]) w x g r y O p n v (startK u now S)) := by
  have k7 := h.k7
  have f7 := h.row.frozen 7
  have f6 := h.row.frozen 6
  have k6 := h.k6
  obtain ⟨s, hs⟩ : ∃ s, sw S.kz S.kd S.ke = s := ⟨_, rfl⟩
  have e1 := sw_is1 S.kz S.kd S.ke
  rw [hs] at e1 k7
  rw [hz] at e1
  obtain ⟨s2, hs2⟩ : ∃ s2, Hid (bits .or .u32 s 1 = s2) := ⟨_, Lib.hid rfl⟩
  have H0 := h.setN u
  have H1 : Hid (Dk ((w.setCell ⟨x, 6, none⟩ (.int .u32 u)).setCell ⟨x, 7, none⟩ (.int .u32 s2)) x g r y O p n v { S with kc := u, kz := true }) := H0.setS s2 true S.kd S.ke (by rw [← hs2.out, ← hs]; exact sw_or1 _ _ _)
  have C1 : CK x g O v v w ((w.setCell ⟨x, 6, none⟩ (.int .u32 u)).setCell ⟨x, 7, none⟩ (.int .u32 s2)) := (CK.set x g O v w 6 (.int .u32 u)).trans (CK.set x g O v _ 7 (.int .u32 s2))
  clear hs hz H0
  obtain ⟨T, HT⟩ : ∃ T, Hid (IntKind.i64.wrap (now + 32) = T) := ⟨_, Lib.hid rfl⟩
  have hT : T = now + 32 := by rw [← HT.out, IntKind.wrap_i64]; omega
  have hok : okB 5 T = true := by unfold okB; apply decide_eq_true; omega
  have HA : Hid (startK u now S = armS 5 T { S with kc := u, kz := true }) := by show _ = _; unfold startK; rw [hT]
  clear n0 n1 hT
  go_enter Tryz.func127, Tryz.ntmps127
  go_wp2_with fail
  rw [hs2.out]
  generalize (w.setCell ⟨x, 6, none⟩ (.int .u32 u)).setCell ⟨x, 7, none⟩ (.int .u32 s2) = w1 at H1 C1 ⊢
  have h1 := H1.out
  have hd : Dk w1.drew x g r y O p n v { S with kc := u, kz := true } := h1.drewN 1
  have hdw : Wh 125 w1.drew g v (S.L) S.a := hd.wh
  have x0 : w1.drew.cell? ⟨x, 0, none⟩ = some (.int .i64 5) := hd.k0
  have x1 : w1.drew.cell? ⟨x, 1, none⟩ = some (.pointer (some ⟨g, 0, none⟩)) := hd.k1
  go_region_held3 (fun w' => w'.cell? ⟨x, 0, none⟩ = some (.int .i64 5) ∧ w'.cell? ⟨x, 1, none⟩ = some (.pointer (some ⟨g, 0, none⟩))) (first | with_reducible exact ⟨x0, x1⟩ | with_reducible exact ⟨y0, y1⟩)
    (first
      | (go_at_call 113; rw [HT.out]; (with_reducible refine (arm_S (W := w1.drew) 5 T hdw hok hl ha).mono ?_); rintro e w4 ⟨rfl, v4, hw4, hch4⟩; have h4 := hd.wheel hw4 hch4; have y0 := h4.k0; have y1 := h4.k1))
  go_wp2
  go_end0
  exact ⟨rfl, v4, by rw [HA.out]; exact h4, (C1.trans (CK.drewN x g O v w1 1)).trans (CK.of_ch hch4)⟩
set_option maxRecDepth 100000 in
set_option maxHeartbeats 1000000 in
theorem zwrite_any (k : Nat) (z u now : Int) (h : Dk w x g r y O p n v S) (hk : k ≤ 15) (hz : z = (k : Int) * 4) (u0 : 0 ≤ u) (u1 : u < 4294967296) (hl : S.L.length ≤ 990000) (ha : 0 ≤ S.a ∧ S.a ≤ 1000000) (n0 : 0 ≤ now) (n1 : now ≤ 4611686018427387000) :
    Calls Tryz.prog 125 #[.pointer (some ⟨x, 0, none⟩), .int .u32 z, .int .u32 u, .int .i64 now] w (RetDk (.bool (decide (k < 4))) w x g r y O p n v (wrK k u now S)) := by
  have k4 := h.k4
  have k5 := h.k5
  have f4 := h.row.frozen 4
  have f5 := h.row.frozen 5
  have f7 := h.row.frozen 7
  have k7 := h.k7
  match k with
  | 0 =>
    obtain rfl : z = 0 := by omega
    clear hz hk
    go_enter Tryz.func125, Tryz.ntmps125
    go_wp2
    go_ret
    exact ⟨rfl, v, h.setZ u, CK.set x g O v w 4 _⟩
  | 1 =>
    obtain rfl : z = 4 := by omega
    clear hz hk
    go_enter Tryz.func125, Tryz.ntmps125
    go_wp2
    go_ret
    exact ⟨rfl, v, h.setT u, CK.set x g O v w 5 _⟩
  | 2 =>
    obtain rfl : z = 8 := by omega
    clear hz hk
    cases hb : S.kz
    · have HA : Hid (wrK 2 u now S = startK u now S) := by show ctlK u now S = _; unfold ctlK; rw [hb]
      go_enter Tryz.func125, Tryz.ntmps125
      go_wp2_with fail
      with_reducible refine (zst_yes u now h hb hl ha n0 n1).mono ?_
      rintro e w1 ⟨rfl, v1, h1, hc⟩
      go_wp2
      go_ret
      exact ⟨rfl, v1, by rw [HA.out]; exact h1, hc⟩
    · have HA : Hid (wrK 2 u now S = S) := by show ctlK u now S = _; unfold ctlK; rw [hb]
      go_enter Tryz.func125, Tryz.ntmps125
      go_wp2_with fail
      with_reducible refine (zst_no u now h hb).mono ?_
      rintro e w1 ⟨rfl, rfl⟩
      go_wp2
      go_ret
      exact ⟨rfl, v, by rw [HA.out]; exact h, CK.refl _ _ _ _ _⟩
  | 3 =>
    obtain rfl : z = 12 := by omega
    clear hz hk
    obtain ⟨s, hs⟩ : ∃ s, sw S.kz S.kd S.ke = s := ⟨_, rfl⟩
    rw [hs] at k7
    obtain ⟨m, hm⟩ : ∃ m, Hid (bits .and .u32 u 6 = m) := ⟨_, Lib.hid rfl⟩
    obtain ⟨s2, hs2⟩ : ∃ s2, Hid (bits .andNot .u32 s m = s2) := ⟨_, Lib.hid rfl⟩
    have H1 : Hid (Dk (w.setCell ⟨x, 7, none⟩ (.int .u32 s2)) x g r y O p n v { S with kd := S.kd && !decide (u / 2 % 2 = 1), ke := S.ke && !decide (u / 4 % 2 = 1) }) := h.setS s2 S.kz (S.kd && !decide (u / 2 % 2 = 1)) (S.ke && !decide (u / 4 % 2 = 1)) (by rw [← hs2.out, ← hm.out, ← hs, v_and6 u u0 u1]; exact sw_clr _ _ _ _ _)
    clear hs
    go_enter Tryz.func125, Tryz.ntmps125
    go_wp2
    rw [hm.out, hs2.out]
    go_ret
    exact ⟨rfl, v, H1.out, CK.set x g O v w 7 _⟩
  | k + 4 =>
    have HA : Hid (wrK (k + 4) u now S = S) := Lib.hid rfl
    have HZ : Hid (decide (k + 4 < 4) = false) := Lib.hid (decide_eq_false (by omega))
    have z0 : (z == 0) = false := beq_false_of_ne (by omega)
    have z1 : (z == 4) = false := beq_false_of_ne (by omega)
    have z2 : (z == 8) = false := beq_false_of_ne (by omega)
    have z3 : (z == 12) = false := beq_false_of_ne (by omega)
    clear hz hk
    go_enter Tryz.func125, Tryz.ntmps125
    go_wp2
    go_ret
    exact ⟨by rw [HZ.out]; rfl, v, by rw [HA.out]; exact h, CK.refl _ _ _ _ _⟩
end
section
variable {w : World} {x g r y : Nat} {O : Nat → Prop} {p n : Nat} {v : Value} {S : BS}
/-- what Bytes leaves: the disk's bytes in new memory -/
def BytesD (w : World) (n : Nat) (D : Nat → Int) (e : Ending) (w' : World) : Prop :=
  ∃ v, e = .returned v ∧ ByAt (fun k => w.heap.size ≤ k) w' v (64 * n) D ∧ Fr (fun _ => False) w w'
set_option maxRecDepth 100000 in
set_option maxHeartbeats 1000000 in
theorem zbytes_any (h : Dk w x g r y O p n v S) (hn : n ≤ 64) :
    Calls Tryz.prog 76 #[.pointer (some ⟨x, 0, none⟩)] w (BytesD w n S.D) := by
  have k3 := h.k3
  obtain ⟨i0, hi, hi3⟩ := Option.map_eq_some_iff.1 info_u8
  simp only [Prod.mk.injEq] at hi3
  obtain ⟨hz0, hz1, hz2⟩ := hi3
  have HII := Lib.hid hi
  have HZ0 := Lib.hid hz0
  have HZ1 := Lib.hid hz1
  have HZ2 := Lib.hid hz2
  clear hi hz0 hz1 hz2
  have hown : w.ownsRow w.heap.size 5 1 (.slice none 0 0) 0 [] := World.ownsRow_nil _ _ _ _
  go_enter Tryz.func76, Tryz.ntmps76
  go_wp2_with (at_builtin; refine wpList_append_own_at _ rfl _ (.tmp 6) 24 rfl w.heap.size 5 i0 (.int .u8 0) 1 1 Tryz.underlying24 HII.out HZ0.out HZ1.out HZ2.out rfl (by decide) _ _ _ rfl hown ⟨y, 0, none⟩ (64 * n) (64 * n) ((List.range (64 * n)).map fun i => Value.int .u8 (S.D i)) rfl (by simp) ?hnews (by intro u hu; simp at hu; obtain ⟨j, _, rfl⟩ := hu; rfl) (by unfold maxLen; omega) (by omega) (Nat.le_refl _) ?_)
  case hnews =>
    intro j u hj
    have hjn : j < 64 * n := by
      rcases Nat.lt_or_ge j (64 * n) with q | q
      · exact q
      · rw [List.getElem?_eq_none (by simpa using q)] at hj; cases hj
    rw [List.getElem?_map, List.getElem?_range hjn] at hj
    have e : Value.int .u8 (S.D j) = u := by simpa using hj
    rw [← e, show (⟨y, 0, none⟩ : Addr).add j = ⟨y, 0 + j, none⟩ by unfold Addr.add; split <;> simp_all, Nat.zero_add]
    exact h.mm.row.cell (i := j) hjn
  intro v1 w1 hown1 hgrow1 _ _
  go_wp2
  go_ret
  refine ⟨_, rfl, ?_, fr_new0 hgrow1⟩
  exact byAt_own (by simpa using hown1) h.mm.bD
theorem slice_a (y Z n : Nat) (h : Z < n) (hn : n ≤ 64) : ∀ w, (Instr.slice 24 (.slice (some ⟨y, 0, none⟩) (64 * n) (64 * n)) (some (.int .u32 (IntKind.u32.wrap ((Z : Int) * 64)))) none none).run Tryz.prog w = .ok (.slice (some ⟨y, Z * 64, none⟩) (64 * n - Z * 64) (64 * n - Z * 64)) w := by
  intro w
  have e : IntKind.u32.wrap ((Z : Int) * 64) = (Z * 64 : Nat) := by rw [IntKind.wrap_u32]; omega
  rw [e, run_slice_l (ht := und_u8) (h0 := by omega) (h1 := by omega), size1_u8]
  show Result.ok (sliced (some ⟨y, 0, none⟩) (((Z * 64 : Nat) : Int).toNat) (64 * n) (64 * n) 1) w = _
  unfold sliced
  rw [if_neg (by omega), Int.toNat_natCast]
  show Result.ok (Value.slice (some ((⟨y, 0, none⟩ : Addr).add (Z * 64 * 1))) (64 * n - Z * 64) (64 * n - Z * 64)) w = _
  rw [add_none, Nat.mul_one, Nat.zero_add]
theorem slice_b (y Z n : Nat) (h : Z < n) : ∀ w, (Instr.slice 24 (.slice (some ⟨y, Z * 64, none⟩) (64 * n - Z * 64) (64 * n - Z * 64)) none (some (.int .i64 64)) none).run Tryz.prog w = .ok (.slice (some ⟨y, Z * 64, none⟩) 64 (64 * n - Z * 64)) w := by
  intro w
  rw [run_slice_h (ht := und_u8) (h0 := by omega) (h2 := by omega), size1_u8]
  show Result.ok (sliced (some ⟨y, Z * 64, none⟩) 0 64 (64 * n - Z * 64) 1) w = _
  unfold sliced
  rw [if_neg (by omega)]
  show Result.ok (Value.slice (some ((⟨y, Z * 64, none⟩ : Addr).add (0 * 1))) (64 - 0) (64 * n - Z * 64 - 0)) w = _
  rw [add_none]
  rfl
set_option maxRecDepth 100000 in
set_option maxHeartbeats 1000000 in
theorem zdo_any (h : Dk w x g r y O p n v S) (hn : n ≤ 64) (z0 : 0 ≤ S.z) (z1 : S.z < 4294967296) (t0 : 0 ≤ S.kt) (t1 : S.kt < 4294967296) :
    Calls Tryz.prog 126 #[.pointer (some ⟨x, 0, none⟩)] w (RetDk (.bool (okX p n S)) w x g r y O p n v (doX p n S)) := by
  have hd : Dk w.drew x g r y O p n v S := h.drewN 1
  obtain ⟨Z, hZ⟩ : ∃ Z : Nat, S.z = Z := ⟨S.z.toNat, by omega⟩
  obtain ⟨T, hT⟩ : ∃ T, S.kt = T := ⟨_, rfl⟩
  obtain ⟨c, hC⟩ : ∃ c, S.kc = c := ⟨_, rfl⟩
  have q4 : ∀ {w1 : World} {v1 : Value} {S1 : BS}, Dk w1 x g r y O p n v1 S1 → S1.z = S.z → w1.cell? ⟨x, 4, none⟩ = some (.int .u32 Z) := fun h1 e1 => by rw [← hZ, ← e1]; exact h1.k4
  have q5 : ∀ {w1 : World} {v1 : Value} {S1 : BS}, Dk w1 x g r y O p n v1 S1 → S1.kt = S.kt → w1.cell? ⟨x, 5, none⟩ = some (.int .u32 T) := fun h1 e1 => by rw [← hT, ← e1]; exact h1.k5
  have q6 : ∀ {w1 : World} {v1 : Value} {S1 : BS}, Dk w1 x g r y O p n v1 S1 → S1.kc = S.kc → w1.cell? ⟨x, 6, none⟩ = some (.int .u32 c) := fun h1 e1 => by rw [← hC, ← e1]; exact h1.k6
  have x4 : w.drew.cell? ⟨x, 4, none⟩ = some (.int .u32 Z) := q4 hd rfl
  have HWn : Hid (IntKind.u32.wrap (n : Int) = n) := by show _ = _; rw [IntKind.wrap_u32]; omega
  by_cases hzn : Z < n
  · have hzI : decide ((n : Int) ≤ (Z : Int)) = false := decide_eq_false (by omega)
    have HM64 : Hid (IntKind.u32.wrap ((Z : Int) * 64) = (64 * Z : Nat)) := by show _ = _; rw [IntKind.wrap_u32]; omega
    go_enter Tryz.func126, Tryz.ntmps126
    go_wp2_with fail
    go_region_held3 (fun w' => w'.cell? ⟨x, 4, none⟩ = some (.int .u32 Z)) (first | with_reducible exact x4)
      (first
        | (go_at_call 128; (with_reducible refine (zsect_any hd hn).mono ?_); rintro e w4 ⟨rfl, rfl⟩))
    rw [HWn.out]
    have C2 : CK x g O v v w w.drew := CK.drewN x g O v w 1
    clear x4
    generalize w.drew = w2 at hd C2 ⊢
    have hd2 : Dk w2.drew x g r y O p n v S := hd.drewN 1
    have u4 : w2.cell? ⟨x, 4, none⟩ = some (.int .u32 Z) := q4 hd rfl
    have u3 := hd.k3
    have hs1 := slice_a y Z n hzn hn
    have hs2 := slice_b y Z n hzn
    go_wp2_with fail
    go_region
    clear hs1 hs2
    have hd3 : Dk w2.drew x g r y O p n v S := hd2
    have C3 : CK x g O v v w w2.drew := C2.trans (CK.drewN x g O v w2 1)
    have hn64 : 64 * n ≤ 4096 := by omega
    clear u3 u4 hd hd2
    generalize w2.drew = w3 at hd3 C3 ⊢
    have u6 := q6 hd3 rfl
    have HZN := Lib.hid hzn
    have HP : ∀ {w1 : World}, Mk 103 w1 r y O p n S.C S.D → ByAt (fun k => k = y) w1 (.slice (some ⟨y, Z * 64, none⟩) 64 (64 * n - Z * 64)) 64 (fun i => S.D (Z * 64 + i)) := fun hm => hm.part (Z * 64) 64 (64 * n - Z * 64) (by omega) (by omega)
    by_cases hc1 : c = 1
    · subst hc1
      have HN : Hid (okX p n S = inB p T 64) := by show _ = _; unfold okX; rw [hZ, hC, hT, decide_eq_true (by omega)]; rfl
      have HU : Hid (doX p n S = { S with C := uC p S.C T 64 (fun i => S.D (Z * 64 + i)) }) := by
        show _ = _
        unfold doX uC
        rw [HN.out]
        cases inB p T 64
        · rfl
        · show doK S = _
          rw [dk_read hC]
          unfold rdK
          rw [hT, hZ]
          rfl
      have hm4 : Mk 103 w3.drew r y O p n S.C S.D := (hd3.drewN 1).mm
      have hd4 : Dk w3.drew x g r y O p n v S := hd3.drewN 1
      have hB4 := HP hm4
      have x2 : w3.drew.cell? ⟨x, 2, none⟩ = some (.pointer (some ⟨r, 0, none⟩)) := hd4.k2
      have x5 : w3.drew.cell? ⟨x, 5, none⟩ = some (.int .u32 T) := q5 hd4 rfl
      rw [hT] at t0 t1
      clear hZ hT hC z0 z1 hzI hzn
      go_wp2_with fail
      go_region_held3 (fun w' => w'.cell? ⟨x, 2, none⟩ = some (.pointer (some ⟨r, 0, none⟩)) ∧ w'.cell? ⟨x, 5, none⟩ = some (.int .u32 T)) (first | with_reducible exact ⟨x2, x5⟩ | with_reducible exact ⟨y2, y5⟩)
        (first
          | (go_at_call 17; (with_reducible refine (kput_any (w := w3.drew) T _ 64 (fun i => S.D (Z * 64 + i)) hm4 hB4 t0 t1 (by omega)).mono ?_); rintro e w6 ⟨rfl, hm6, hF6⟩; have h6 := hd4.mem hm6 hF6; have y2 := h6.k2; have y5 : w6.cell? ⟨x, 5, none⟩ = some (.int .u32 T) := q5 h6 rfl))
      go_wp2
      go_ret
      exact ⟨by rw [HN.out]; rfl, v, by rw [HU.out]; exact h6, (C3.trans (CK.drewN x g O v w3 1)).trans (CK.of_mem hF6)⟩
    · by_cases hc2 : c = 2
      · subst hc2
        have HN : Hid (okX p n S = inB p T 64) := by show _ = _; unfold okX; rw [hZ, hC, hT, decide_eq_true (by omega)]; rfl
        have HU : Hid (doX p n S = match inB p T 64 with | true => { S with D := putC S.D (Z * 64) 64 (fun i => S.C (T.toNat + i)) } | false => S) := by
          show _ = _
          unfold doX
          rw [HN.out]
          cases inB p T 64
          · rfl
          · show doK S = _
            rw [dk_write (by rw [hC]; omega)]
            unfold wtK
            rw [hT, hZ]
            rfl
        have hm4 : Mk 103 w3.drew r y O p n S.C S.D := (hd3.drewN 1).mm
        have hd4 : Dk w3.drew x g r y O p n v S := hd3.drewN 1
        have x2 : w3.drew.cell? ⟨x, 2, none⟩ = some (.pointer (some ⟨r, 0, none⟩)) := hd4.k2
        have x5 : w3.drew.cell? ⟨x, 5, none⟩ = some (.int .u32 T) := q5 hd4 rfl
        rw [hT] at t0 t1
        clear hZ hT hC z0 z1 hzI hzn
        go_wp2_with fail
        go_region_held3 (fun w' => w'.cell? ⟨x, 2, none⟩ = some (.pointer (some ⟨r, 0, none⟩)) ∧ w'.cell? ⟨x, 5, none⟩ = some (.int .u32 T)) (first | with_reducible exact ⟨x2, x5⟩ | with_reducible exact ⟨y2, y5⟩)
          (first
            | (go_at_call 49; (with_reducible refine (kbytes_any (w := w3.drew) T 64 hm4 t0 t1 (by omega) (by omega)).mono ?_); rintro e w6 ⟨u, rfl, hB6, hF6⟩; have h6 := hd4.no hF6; have y2 := h6.k2; have y5 : w6.cell? ⟨x, 5, none⟩ = some (.int .u32 T) := q5 h6 rfl))
        have C6 : CK x g O v v w w6 := (C3.trans (CK.drewN x g O v w3 1)).trans (CK.of_no hF6)
        have hr6 := h6.mm.row
        cases hi : inB p T 64
        · have HI := Lib.hid hi
          have hcn : cnt p T 64 = 0 := by unfold cnt; rw [hi]
          rw [hcn] at hB6
          obtain ⟨sp, cp, rfl, hcell⟩ := hB6.one
          clear hcn hi hB6 y2 y5
          go_wp2_with (with_reducible refine wpList_copy_row rfl (.tmp 55) (.tmp 56) 24 24 rfl 5 Tryz.underlying24 size_u8 _ _ _ _ _ _ rfl rfl y (Z * 64) (64 * n) 5 _ hr6 0 ?hmin (fun i => .int .u8 0) ?hpos (by have := HZN.out; omega) (fun _ => rfl) ?_)
          case hmin => exact (Nat.min_eq_left (by omega)).symm
          try (case hpos => intro hp; exact absurd hp (by omega))
          intro w7 hr7 hf7
          have hr8 : w7.rowIs y 5 (64 * n) (fun i => .int .u8 (S.D i)) := hr7.congr fun i _ => by rw [if_neg (by omega)]
          have h7 : Dk w7 x g r y O p n v { S with C := S.C, D := S.D } := h6.same hr8 hf7
          go_wp2
          go_ret
          exact ⟨by rw [HN.out, HI.out]; rfl, v, by rw [HU.out, HI.out]; exact h7, C6.trans (CK.of_mem (h6.mm.fr_row hf7))⟩
        · have HI := Lib.hid hi
          have hcn : cnt p T 64 = 64 := by unfold cnt; rw [hi]; rfl
          rw [hcn] at hB6
          obtain ⟨sp, cp, rfl, hcell⟩ := hB6.one
          have HCB := Lib.hid (fun j (hj : j < 64) => hB6.bounds j hj)
          obtain ⟨ad, rfl, hcell2⟩ := hcell (by omega)
          have HCE := Lib.hid hcell2
          clear hcn hi hB6 y2 y5 hcell hcell2
          go_wp2_with (with_reducible refine wpList_copy_row rfl (.tmp 55) (.tmp 56) 24 24 rfl 5 Tryz.underlying24 size_u8 _ _ _ _ _ _ rfl rfl y (Z * 64) (64 * n) 5 _ hr6 64 ?hmin2 (fun i => .int .u8 (S.C (T.toNat + i))) ?hpos2 (by have := HZN.out; omega) (fun _ => rfl) ?_)
          case hmin2 => rfl
          case hpos2 => first | (intro _; exact ⟨rfl, _, rfl, HCE.out⟩) | exact fun _ => HCE.out | exact HCE.out
          intro w7 hr7 hf7
          obtain ⟨hk7, hf8⟩ := h6.mm.setRow (f := fun i => S.C (T.toNat + i)) hr7 hf7 HCB.out
          have h7 := h6.mem hk7 hf8
          go_wp2
          go_ret
          exact ⟨by rw [HN.out, HI.out]; rfl, v, by rw [HU.out, HI.out]; exact h7, C6.trans (CK.of_mem hf8)⟩
      · have HN : Hid (okX p n S = false) := by
          show _ = _
          unfold okX
          rw [hC, decide_eq_false hc1, decide_eq_false hc2]
          exact Bool.and_false _
        have hb1 : (c == 1) = false := beq_false_of_ne hc1
        have hb2 : (c == 2) = false := beq_false_of_ne hc2
        go_wp2
        go_ret
        exact ⟨by rw [HN.out]; rfl, v, by unfold doX; rw [HN.out]; exact hd3, C3⟩
  · have HN : Hid (okX p n S = false) := by show _ = _; unfold okX; rw [hZ, decide_eq_false (by omega)]; rfl
    go_enter Tryz.func126, Tryz.ntmps126
    go_wp2_with fail
    go_region_held3 (fun w' => w'.cell? ⟨x, 4, none⟩ = some (.int .u32 Z)) (first | with_reducible exact x4)
      (first
        | (go_at_call 128; (with_reducible refine (zsect_any hd hn).mono ?_); rintro e w4 ⟨rfl, rfl⟩))
    rw [HWn.out]
    go_wp2
    go_ret
    exact ⟨by rw [HN.out]; rfl, v, by unfold doX; rw [HN.out]; exact hd, CK.drewN x g O v w 1⟩
set_option maxRecDepth 100000 in
set_option maxHeartbeats 1000000 in
theorem zfire_any (now : Int) (h : Dk w x g r y O p n v S) (hn : n ≤ 64) (z0 : 0 ≤ S.z) (z1 : S.z < 4294967296) (t0 : 0 ≤ S.kt) (t1 : S.kt < 4294967296) :
    Calls Tryz.prog 122 #[.pointer (some ⟨x, 0, none⟩), .int .i64 now] w (RetDk (.tuple #[]) w x g r y O p n v (fiK p n S)) := by
  have k7 := h.k7
  have f7 := h.row.frozen 7
  obtain ⟨s, hs⟩ : ∃ s, sw S.kz S.kd S.ke = s := ⟨_, rfl⟩
  rw [hs] at k7
  obtain ⟨s2, hs2⟩ : ∃ s2, Hid (bits .andNot .u32 s 1 = s2) := ⟨_, Lib.hid rfl⟩
  obtain ⟨s3, hs3⟩ : ∃ s3, Hid (bits .or .u32 s2 2 = s3) := ⟨_, Lib.hid rfl⟩
  have e2 : s2 = sw false S.kd S.ke := by rw [← hs2.out, ← hs]; exact sw_not1 _ _ _
  have e3 : s3 = sw false true S.ke := by rw [← hs3.out, e2]; exact sw_or2 _ _ _
  have h2 := h.setS s2 false S.kd S.ke e2
  have H3 : Hid (Dk ((w.setCell ⟨x, 7, none⟩ (.int .u32 s2)).setCell ⟨x, 7, none⟩ (.int .u32 s3)) x g r y O p n v { S with kz := false, kd := true }) := h2.setS s3 false true S.ke e3
  have C3 : CK x g O v v w ((w.setCell ⟨x, 7, none⟩ (.int .u32 s2)).setCell ⟨x, 7, none⟩ (.int .u32 s3)) := (CK.set x g O v w 7 _).trans (CK.set x g O v _ 7 _)
  clear hs e2 e3 h2
  cases hb : okX p n S
  · have HM : Hid (okX p n { S with kz := false, kd := true } = false) := hb
    have HF : Hid (fiK p n S = { S with kz := false, kd := true, ke := true }) := by show _ = _; unfold fiK; rw [hb]
    have HC : Hid (doX p n { S with kz := false, kd := true } = { S with kz := false, kd := true }) := by show _ = _; unfold doX; rw [HM.out]
    clear hb
    go_enter Tryz.func122, Tryz.ntmps122
    go_wp2_with fail
    rw [hs2.out, hs3.out]
    generalize (w.setCell ⟨x, 7, none⟩ (.int .u32 s2)).setCell ⟨x, 7, none⟩ (.int .u32 s3) = w3 at H3 C3 ⊢
    with_reducible refine (zdo_any H3.out hn z0 z1 t0 t1).mono ?_
    rintro e w4 ⟨rfl, v4, h4, hc4⟩
    rw [HC.out] at h4
    rw [HM.out]
    have k7' := h4.k7
    have f7' := h4.row.frozen 7
    obtain ⟨s4, hs4⟩ : ∃ s4, sw false true S.ke = s4 := ⟨_, rfl⟩
    obtain ⟨s5, hs5⟩ : ∃ s5, Hid (bits .or .u32 s4 4 = s5) := ⟨_, Lib.hid rfl⟩
    have H5 : Hid (Dk (w4.setCell ⟨x, 7, none⟩ (.int .u32 s5)) x g r y O p n v4 { S with kz := false, kd := true, ke := true }) := h4.setS s5 false true true (by rw [← hs5.out, ← hs4]; exact sw_or4 _ _ _)
    have k8 : w4.cell? ⟨x, 7, none⟩ = some (.int .u32 s4) := by rw [← hs4]; exact k7'
    clear hs4 k7'
    go_wp2
    rw [hs5.out]
    go_end0
    exact ⟨rfl, v4, by rw [HF.out]; exact H5.out, (C3.trans hc4).trans (CK.set x g O v4 w4 7 _)⟩
  · have HM : Hid (okX p n { S with kz := false, kd := true } = true) := hb
    have HF : Hid (fiK p n S = doK { S with kz := false, kd := true }) := by show _ = _; unfold fiK; rw [hb]; rfl
    have HC : Hid (doX p n { S with kz := false, kd := true } = doK { S with kz := false, kd := true }) := by show _ = _; unfold doX; rw [HM.out]
    clear hb
    go_enter Tryz.func122, Tryz.ntmps122
    go_wp2_with fail
    rw [hs2.out, hs3.out]
    generalize (w.setCell ⟨x, 7, none⟩ (.int .u32 s2)).setCell ⟨x, 7, none⟩ (.int .u32 s3) = w3 at H3 C3 ⊢
    with_reducible refine (zdo_any H3.out hn z0 z1 t0 t1).mono ?_
    rintro e w4 ⟨rfl, v4, h4, hc4⟩
    rw [HC.out] at h4
    rw [HM.out]
    go_wp2
    go_end0
    exact ⟨rfl, v4, by rw [HF.out]; exact h4, C3.trans hc4⟩
end
/-- how many sectors so many bytes need -/
def nS (len : Nat) : Nat := min ((len + 63) / 64) 64
/-- a disk's bytes: len bytes f, and 0 -/
def imD (len : Nat) (f : Nat → Int) : Nat → Int := fun i => if i < min len (64 * nS len) then f i else 0
theorem imD_bd {len : Nat} {f : Nat → Int} (h : ∀ j, j < len → 0 ≤ f j ∧ f j ≤ 255) (i : Nat) : 0 ≤ imD len f i ∧ imD len f i ≤ 255 := by
  unfold imD
  split
  · exact h i (by omega)
  · omega
section
variable {w : World} {g r : Nat} {M : Nat → Prop} {p : Nat}
/-- a disk of an image of len bytes f, in new memory -/
def NewDk (w : World) (g r : Nat) (d : Int) (len : Nat) (f : Nat → Int) (e : Ending) (w' : World) : Prop :=
  ∃ x y, w.heap.size ≤ x ∧ w.heap.size ≤ y ∧ x ≠ y ∧ e = .returned (.pointer (some ⟨x, 0, none⟩)) ∧ w'.rowIs x 134 8 (dk8 d g r y (nS len) 0 0 0 0) ∧ w'.rowIs y 5 (64 * nS len) (fun i => .int .u8 (imD len f i)) ∧ Below w.heap.size w w'
theorem make_m (m : Nat) (k : Int) (hk : k = (64 * m : Nat)) (hm : m ≤ 64) : ∀ w, (Instr.makeSlice 24 (.int .i64 k) (.int .i64 k)).run Tryz.prog w = .ok (.slice (some ⟨w.heap.size, 0, none⟩) (64 * m) (64 * m)) (w.alloc (.cells (madeCells #[.int .u8 0] (64 * m)) 5)) := by
  subst hk
  exact run_make_row' (P := Tryz.prog) 24 5 (.int .u8 0) 1 Tryz.underlying24 info_u8 rfl .i64 .i64 (64 * m) (by omega) (by omega)
/-- the row behind the copy is the disk's -/
theorem im_row {w1 : World} {y len n : Nat} {f : Nat → Int} (hn : n = min len (64 * nS len)) (hr : w1.rowIs y 5 (64 * nS len) (fun i => if i < n then .int .u8 (f i) else .int .u8 0)) : w1.rowIs y 5 (64 * nS len) (fun i => .int .u8 (imD len f i)) := by
  subst hn
  refine hr.congr fun i _ => ?_
  unfold imD
  by_cases h : i < min len (64 * nS len)
  · rw [if_pos h, if_pos h]
  · rw [if_neg h, if_neg h]
/-- what is left behind the copy and the box -/
theorem de_end {w1 : World} {d : Int} {len n : Nat} {f : Nat → Int} (hB : ∀ j, j < len → 0 ≤ f j ∧ f j ≤ 255) (hn : n = min len (64 * nS len)) {o : Obj}
    (hr : w1.rowIs w.heap.size 5 (64 * nS len) (fun i => if i < n then .int .u8 (f i) else .int .u8 0)) (hf : Fr (fun k => k = w.heap.size) (w.alloc o) w1) :
    ((w1.alloc (.cells #[.int .i64 d, .pointer (some ⟨g, 0, none⟩), .pointer (some ⟨r, 0, none⟩), .slice (some ⟨w.heap.size, 0, none⟩) (64 * nS len) (64 * nS len), .int .u32 0, .int .u32 0, .int .u32 0, .int .u32 0] 134)).rowIs w1.heap.size 134 8 (dk8 d g r w.heap.size (nS len) 0 0 0 0) ∧ (w1.alloc (.cells #[.int .i64 d, .pointer (some ⟨g, 0, none⟩), .pointer (some ⟨r, 0, none⟩), .slice (some ⟨w.heap.size, 0, none⟩) (64 * nS len) (64 * nS len), .int .u32 0, .int .u32 0, .int .u32 0, .int .u32 0] 134)).rowIs w.heap.size 5 (64 * nS len) (fun i => .int .u8 (imD len f i))) ∧ Below w.heap.size w (w1.alloc (.cells #[.int .i64 d, .pointer (some ⟨g, 0, none⟩), .pointer (some ⟨r, 0, none⟩), .slice (some ⟨w.heap.size, 0, none⟩) (64 * nS len) (64 * nS len), .int .u32 0, .int .u32 0, .int .u32 0, .int .u32 0] 134)) ∧ w.heap.size < w1.heap.size := by
  have f0 : Fr (fun _ => False) w w1 := fr_new hf
  have hs1 := f0.size
  have hs2 := hf.size
  have hs3 : (w.alloc o).heap.size = w.heap.size + 1 := by simp
  have hr2 := im_row hn hr
  refine ⟨⟨World.rowIs_alloc w1 _ _ _ fun i hi => ?_, hr2.of_block (((Below.refl _ w1).alloc (Nat.le_refl _) _).block _ (by omega))⟩, (f0.below (Nat.le_refl _) (fun k _ h => h.elim)).alloc hs1 _, by omega⟩
  have : i = 0 ∨ i = 1 ∨ i = 2 ∨ i = 3 ∨ i = 4 ∨ i = 5 ∨ i = 6 ∨ i = 7 := by have : i < 8 := hi; omega
  rcases this with rfl | rfl | rfl | rfl | rfl | rfl | rfl | rfl <;> rfl
set_option maxRecDepth 100000 in
set_option maxHeartbeats 1000000 in
theorem znewd_any {Q : Nat → Prop} (d : Int) (u : Value) (len : Nat) (f : Nat → Int) (hv : ByAt Q w u len f) (hl : len ≤ 10000) :
    Calls Tryz.prog 54 #[.int .i64 d, .pointer (some ⟨g, 0, none⟩), .pointer (some ⟨r, 0, none⟩), u] w (NewDk w g r d len f) := by
  have HB := Lib.hid (fun j (hj : j < len) => hv.bounds j hj)
  have hrow := World.rowIs_made w (.int .u8 0) (64 * nS len) 5
  have hf0 : Fr (fun _ => False) w (w.alloc (.cells (madeCells #[.int .u8 0] (64 * nS len)) 5)) := Fr.of_below ((Below.refl _ _).alloc (Nat.le_refl _) _)
  have hv2 := hv.fr hf0 (fun _ _ _ => id)
  obtain ⟨sp, c, rfl, hcell⟩ := hv.one
  have HC : Hid (0 < min len (64 * nS len) → ∃ ad, sp = some ad ∧ ∀ j, j < min len (64 * nS len) → (w.alloc (.cells (madeCells #[.int .u8 0] (64 * nS len)) 5)).cell? (ad.add j) = some (.int .u8 (f j))) := by
    intro hp
    obtain ⟨sp2, c2, e2, h2⟩ := hv2.one
    injection e2 with e2 _ _
    obtain ⟨ad, ha, hc⟩ := h2 (by omega)
    exact ⟨ad, by rw [e2, ha], fun j hj => hc j (by omega)⟩
  clear hcell hv2
  by_cases h4 : len ≤ 4096
  · have hm1 := make_m (nS len) (((len : Int) + 64 - 1) / 64 * 64) (by unfold nS; omega) (by unfold nS; omega)
    go_enter Tryz.func54, Tryz.ntmps54
    go_wp2_with (with_reducible refine wpList_copy_row rfl (.tmp 26) (.tmp 27) 24 24 rfl 5 Tryz.underlying24 size_u8 _ _ _ _ _ _ rfl rfl w.heap.size 0 (64 * nS len) 5 _ hrow (min len (64 * nS len)) ?hmin (fun i => .int .u8 (f i)) ?hpos (by omega) (fun _ => rfl) ?_)
    case hmin => rfl
    case hpos => exact fun hp => HC.out hp
    intro w1 hr1 hf1
    obtain ⟨⟨q1, q1b⟩, q2, q3⟩ := de_end (g := g) (r := r) (d := d) HB.out rfl hr1 hf1
    go_wp2
    go_ret
    exact ⟨_, _, Nat.le_of_lt q3, Nat.le_refl _, Nat.ne_of_gt q3, rfl, q1, q1b, q2⟩
  · have hm1 := make_m (nS len) 4096 (by unfold nS; omega) (by unfold nS; omega)
    go_enter Tryz.func54, Tryz.ntmps54
    go_wp2_with (with_reducible refine wpList_copy_row rfl (.tmp 26) (.tmp 27) 24 24 rfl 5 Tryz.underlying24 size_u8 _ _ _ _ _ _ rfl rfl w.heap.size 0 (64 * nS len) 5 _ hrow (min len (64 * nS len)) ?hmin2 (fun i => .int .u8 (f i)) ?hpos2 (by omega) (fun _ => rfl) ?_)
    case hmin2 => rfl
    case hpos2 => exact fun hp => HC.out hp
    intro w1 hr1 hf1
    obtain ⟨⟨q1, q1b⟩, q2, q3⟩ := de_end (g := g) (r := r) (d := d) HB.out rfl hr1 hf1
    go_wp2
    go_ret
    exact ⟨_, _, Nat.le_of_lt q3, Nat.le_refl _, Nat.ne_of_gt q3, rfl, q1, q1b, q2⟩
end
end Go.Proofs.YtkfedihaldpgmaaGreat
