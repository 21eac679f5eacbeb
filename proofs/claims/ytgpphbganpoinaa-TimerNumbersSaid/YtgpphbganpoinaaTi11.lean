/-
  Chapter 11: a timer in memory, beside its wheel; the functions of package timer.
-/
import Derived.Test.YtgpphbganpoinaaWa9
import Derived.Deep.RegionHeld3
namespace Go.Proofs.Ytgpphbganpoinaa
open Go.RowKit
set_option linter.unusedVariables false
set_option linter.unusedSimpArgs false

/-- what a timer is: it runs, again, its period, it fired; when it is due and which Arm's that is; the wheel's next number -/
structure TS where
  r : Bool
  ag : Bool
  s : Bool
  p : Int
  q : Option (Int × Int)
  a : Int
def ib (b : Bool) : Int := match b with
  | true => 1
  | false => 0
/-- the word control -/
def cw (r ag : Bool) : Int := match r, ag with
  | false, false => 0
  | true, false => 1
  | false, true => 2
  | true, true => 3
/-- the list of what is due: the device's event, if there is one -/
def qL (d : Int) (q : Option (Int × Int)) : List Ev := match q with
  | none => []
  | some (t, s) => [⟨t, d, s⟩]
theorem qL_len (d : Int) (q : Option (Int × Int)) : (qL d q).length ≤ 1 := by
  cases q with
  | none => exact Nat.zero_le _
  | some x => exact Nat.le_refl _
theorem arm_q (d t a : Int) (q : Option (Int × Int)) : armF d t a (qL d q) = qL d (some (t, a)) := by
  cases q with
  | none => rfl
  | some x =>
    obtain ⟨u, s⟩ := x
    have e : delF d (qL d (some (u, s))) = [] := by simp [delF, ixD, qL, List.findIdx_cons]
    unfold armF
    rw [e]
    rfl
theorem del_q (d : Int) (q : Option (Int × Int)) : delF d (qL d q) = [] := by
  cases q with
  | none => rfl
  | some x => simp [delF, ixD, qL, List.findIdx_cons]
/-- when it is armed for -/
def due (t p : Int) : Int := t + (if p = 0 then 1 else p)
def arT (t : Int) (S : TS) : TS := { S with q := some (due t S.p, S.a), a := S.a + 1 }
/-- control is the lowest two bits of v -/
def ctT (v : Int) (S : TS) : TS := { S with r := decide (v % 2 = 1), ag := decide (v / 2 % 2 = 1) }
def stT (now : Int) (S : TS) : TS := if S.r then arT now S else { S with q := none }
def fgT (v : Int) (S : TS) : TS := { S with s := if v % 2 = 1 then false else S.s }
/-- what Write at word k leaves -/
def wrT (k : Nat) (v now : Int) (S : TS) : TS := match k with
  | 0 => stT now (ctT v S)
  | 1 => { S with p := v }
  | 2 => fgT v S
  | _ => S
/-- what Fire leaves -/
def fiT (at_ : Int) (S : TS) : TS := if S.ag then arT at_ { S with s := true } else { S with s := true, r := false }
def wordT (k : Nat) (S : TS) : Int := match k with
  | 0 => cw S.r S.ag
  | 1 => S.p
  | 2 => ib S.s
  | _ => 0
/-- what is taken -/
def duB (now : Int) (S : TS) : Bool := match S.q with
  | some (t, _) => decide (t ≤ now)
  | none => false
def tkT (now : Int) (S : TS) : TS := if duB now S then { S with q := none } else S
theorem take_q (d now : Int) (S : TS) : takeL now (qL d S.q) = qL d (tkT now S).q ∧ dueB now (qL d S.q) = duB now S := by
  obtain ⟨r, ag, s, p, q, a⟩ := S
  cases q with
  | none => exact ⟨rfl, rfl⟩
  | some x =>
    obtain ⟨t, u⟩ := x
    refine ⟨?_, rfl⟩
    by_cases h : t ≤ now
    · simp [takeL, dueB, qL, tkT, duB, h]
    · simp [takeL, dueB, qL, tkT, duB, h]
theorem tkT_a (now : Int) (S : TS) : (tkT now S).a = S.a := by unfold tkT; split <;> rfl

/-! a timer in memory -/
def tm5 (d : Int) (g : Nat) (c p s : Int) : Nat → Value
  | 0 => .int .i64 d
  | 1 => .pointer (some ⟨g, 0, none⟩)
  | 2 => .int .u32 c
  | 3 => .int .u32 p
  | _ => .int .u32 s
/-- block t is a timer of device d on the wheel in block g (its slice: v); it is S -/
structure Ti (w : World) (t g : Nat) (d : Int) (v : Value) (S : TS) : Prop where
  tm : w.rowIs t 74 5 (tm5 d g (cw S.r S.ag) S.p (ib S.s))
  wh : Wh 72 w g v (qL d S.q) S.a
  no : ¬ Own g v t
def OwnT (t g : Nat) (v : Value) (k : Nat) : Prop := k = t ∨ Own g v k
/-- of what was there the timer's own blocks alone have turned -/
structure CT (t g : Nat) (v v2 : Value) (w w' : World) : Prop where
  fr : Fr (OwnT t g v) w w'
  nw : ∀ k, v2.ownBlock = some k → v.ownBlock = some k ∨ w.heap.size ≤ k
section
variable {w w' w1 w2 : World} {t g : Nat} {d : Int} {v v2 v3 : Value} {S S2 : TS}
theorem CT.refl (t g : Nat) (v : Value) (w : World) : CT t g v v w w := ⟨Fr.refl _ _, fun _ h => .inl h⟩
theorem CT.of_ch (h : Ch g v v2 w w') : CT t g v v2 w w' := ⟨h.fr.mono (fun _ e => .inr e), h.nw⟩
theorem CT.of_below (b : Below w.heap.size w w') : CT t g v v w w' := ⟨Fr.of_below b, fun _ h => .inl h⟩
theorem CT.trans (h : CT t g v v2 w w1) (k : CT t g v2 v3 w1 w2) : CT t g v v3 w w2 := by
  refine ⟨⟨k.fr.os.trans h.fr.os, k.fr.tape.trans h.fr.tape, k.fr.output.trans h.fr.output, Nat.le_trans h.fr.size k.fr.size, fun i hi hn => ?_⟩, fun i hi => ?_⟩
  · refine (k.fr.block i (Nat.lt_of_lt_of_le hi h.fr.size) ?_).trans (h.fr.block i hi hn)
    rintro (e | e | e)
    · exact hn (.inl e)
    · exact hn (.inr (.inl e))
    · rcases h.nw i e with e | e
      · exact hn (.inr (.inr e))
      · omega
  · rcases k.nw i hi with e | e
    · exact h.nw i e
    · exact .inr (Nat.le_trans h.fr.size e)
theorem CT.set (t g : Nat) (v : Value) (w : World) (i : Nat) (u : Value) : CT t g v v w (w.setCell ⟨t, i, none⟩ u) := ⟨(Fr.refl (OwnT t g v) w).setCell (x := ⟨t, i, none⟩) (.inl (show OwnT t g v t from .inl rfl)) u, fun _ h => .inl h⟩
theorem CT.drewN (t g : Nat) (v : Value) (w : World) (n : Nat) : CT t g v v w (w.drewN n) := ⟨(Fr.refl (OwnT t g v) w).drewN n, fun _ h => .inl h⟩
theorem Ti.k0 (h : Ti w t g d v S) : w.cell? ⟨t, 0, none⟩ = some (.int .i64 d) := h.tm.cell (i := 0) (by omega)
theorem Ti.k1 (h : Ti w t g d v S) : w.cell? ⟨t, 1, none⟩ = some (.pointer (some ⟨g, 0, none⟩)) := h.tm.cell (i := 1) (by omega)
theorem Ti.k2 (h : Ti w t g d v S) : w.cell? ⟨t, 2, none⟩ = some (.int .u32 (cw S.r S.ag)) := h.tm.cell (i := 2) (by omega)
theorem Ti.k3 (h : Ti w t g d v S) : w.cell? ⟨t, 3, none⟩ = some (.int .u32 S.p) := h.tm.cell (i := 3) (by omega)
theorem Ti.k4 (h : Ti w t g d v S) : w.cell? ⟨t, 4, none⟩ = some (.int .u32 (ib S.s)) := h.tm.cell (i := 4) (by omega)
theorem Ti.fr {Q : Nat → Prop} (h : Ti w t g d v S) (f : Fr Q w w') (hs : ∀ k, OwnT t g v k → ¬ Q k) : Ti w' t g d v S :=
  ⟨h.tm.of_block (f.block _ h.tm.lt (hs t (.inl rfl))), h.wh.fr f (fun k hk => hs k (.inr hk)), h.no⟩
theorem Ti.lt (h : Ti w t g d v S) : ∀ k, OwnT t g v k → k < w.heap.size := by
  rintro k (rfl | hk)
  · exact h.tm.lt
  · exact h.wh.lt k hk
theorem Ti.drewN (h : Ti w t g d v S) (n : Nat) : Ti (w.drewN n) t g d v S := h.fr ((Fr.refl (fun _ => False) w).drewN n) (fun _ _ => id)
theorem Ti.below (h : Ti w t g d v S) (b : Below w.heap.size w w') : Ti w' t g d v S := h.fr (Fr.of_below (S := fun _ => False) b) (fun _ _ => id)
/-- its wheel is another one -/
theorem Ti.wheel (h : Ti w t g d v S) {q : Option (Int × Int)} {a : Int} (hw : Wh 72 w' g v2 (qL d q) a) (hch : Ch g v v2 w w') : Ti w' t g d v2 { S with q := q, a := a } := by
  refine ⟨h.tm.of_block (hch.fr.block _ h.tm.lt h.no), hw, ?_⟩
  rintro (e | e)
  · exact h.no (.inl e)
  · rcases hch.nw _ e with e | e
    · exact h.no (.inr e)
    · have := h.tm.lt; omega
theorem Ti.setW (h : Ti w t g d v S) (i : Nat) (u : Value) (c p s : Int) (hu : ∀ j, j < 5 → (if j = i then u else tm5 d g (cw S.r S.ag) S.p (ib S.s) j) = tm5 d g c p s j) :
    (w.setCell ⟨t, i, none⟩ u).rowIs t 74 5 (tm5 d g c p s) ∧ Wh 72 (w.setCell ⟨t, i, none⟩ u) g v (qL d S.q) S.a :=
  ⟨(h.tm.set i u).congr hu, h.wh.fr ((Fr.refl (fun k => k = t) w).setCell (x := ⟨t, i, none⟩) (.inl rfl) u) (fun k hk e => h.no (e ▸ hk))⟩
theorem Ti.setC (h : Ti w t g d v S) (r ag : Bool) : Ti (w.setCell ⟨t, 2, none⟩ (.int .u32 (cw r ag))) t g d v { S with r := r, ag := ag } := by
  obtain ⟨h1, h2⟩ := h.setW 2 (.int .u32 (cw r ag)) (cw r ag) S.p (ib S.s) (fun j hj => by
    have : j = 0 ∨ j = 1 ∨ j = 2 ∨ j = 3 ∨ j = 4 := by omega
    rcases this with rfl | rfl | rfl | rfl | rfl <;> rfl)
  exact ⟨h1, h2, h.no⟩
theorem Ti.setP (h : Ti w t g d v S) (p : Int) : Ti (w.setCell ⟨t, 3, none⟩ (.int .u32 p)) t g d v { S with p := p } := by
  obtain ⟨h1, h2⟩ := h.setW 3 (.int .u32 p) (cw S.r S.ag) p (ib S.s) (fun j hj => by
    have : j = 0 ∨ j = 1 ∨ j = 2 ∨ j = 3 ∨ j = 4 := by omega
    rcases this with rfl | rfl | rfl | rfl | rfl <;> rfl)
  exact ⟨h1, h2, h.no⟩
theorem Ti.setS (h : Ti w t g d v S) (s : Bool) : Ti (w.setCell ⟨t, 4, none⟩ (.int .u32 (ib s))) t g d v { S with s := s } := by
  obtain ⟨h1, h2⟩ := h.setW 4 (.int .u32 (ib s)) (cw S.r S.ag) S.p (ib s) (fun j hj => by
    have : j = 0 ∨ j = 1 ∨ j = 2 ∨ j = 3 ∨ j = 4 := by omega
    rcases this with rfl | rfl | rfl | rfl | rfl <;> rfl)
  exact ⟨h1, h2, h.no⟩
end
/-- it returns x; the timer is S2 then -/
def RetT (x : Value) (w : World) (t g : Nat) (d : Int) (v : Value) (S2 : TS) (e : Ending) (w' : World) : Prop :=
  e = .returned x ∧ ∃ v2, Ti w' t g d v2 S2 ∧ CT t g v v2 w w'

/-! words' bits -/
theorem ct_and3 (v : Int) (h0 : 0 ≤ v) (h1 : v < 4294967296) : bits .and .u32 v 3 = cw (decide (v % 2 = 1)) (decide (v / 2 % 2 = 1)) := by
  have e : bits .and .u32 v 3 = v % 4 := by
    have := Go.u32_and_nat v.toNat 3 (by omega) (by omega)
    rw [show ((v.toNat : Nat) : Int) = v by omega] at this
    rw [show ((3 : Nat) : Int) = 3 from rfl] at this
    rw [this, show (3 : Nat) = 2 ^ 2 - 1 from rfl, Nat.and_two_pow_sub_one_eq_mod]
    omega
  rw [e]
  by_cases a1 : v % 2 = 1 <;> by_cases a2 : v / 2 % 2 = 1 <;> simp only [a1, a2, decide_true, decide_false, cw] <;> omega
theorem ct_and1 (v : Int) (h0 : 0 ≤ v) (h1 : v < 4294967296) : bits .and .u32 v 1 = ib (decide (v % 2 = 1)) := by
  have e : bits .and .u32 v 1 = v % 2 := by
    have := Go.u32_and_nat v.toNat 1 (by omega) (by omega)
    rw [show ((v.toNat : Nat) : Int) = v by omega] at this
    rw [show ((1 : Nat) : Int) = 1 from rfl] at this
    rw [this, show (1 : Nat) = 2 ^ 1 - 1 from rfl, Nat.and_two_pow_sub_one_eq_mod]
    omega
  rw [e]
  by_cases a1 : v % 2 = 1 <;> simp only [a1, decide_true, decide_false, ib] <;> omega
theorem ct_clr (v : Int) (s : Bool) : bits .andNot .u32 (ib s) (ib (decide (v % 2 = 1))) = ib (if v % 2 = 1 then false else s) := by
  by_cases a1 : v % 2 = 1 <;> simp only [a1, decide_true, decide_false, if_true, if_false] <;> cases s <;> rfl
section
variable {w : World} {t g : Nat} {d : Int} {v : Value} {S : TS}
theorem ti_new (d : Int) (g : Nat) (hw : Wh 72 w g v [] 0) (hn : g < w.heap.size) :
    Ti (w.alloc (.cells #[.int .i64 d, .pointer (some ⟨g, 0, none⟩), .int .u32 0, .int .u32 0, .int .u32 0] 74)) w.heap.size g d v ⟨false, false, false, 0, none, 0⟩ := by
  refine ⟨World.rowIs_alloc w _ _ _ fun i hi => ?_, hw.below ((Below.refl _ _).alloc (Nat.le_refl _) _), fun e => Nat.lt_irrefl _ (hw.lt _ e)⟩
  have : i = 0 ∨ i = 1 ∨ i = 2 ∨ i = 3 ∨ i = 4 := by have : i < 5 := hi; omega
  rcases this with rfl | rfl | rfl | rfl | rfl <;> rfl
set_option maxHeartbeats 400000 in
theorem tnew_any (d : Int) (hw : Wh 72 w g v [] 0) :
    Calls Try.prog 10 #[.int .i64 d, .pointer (some ⟨g, 0, none⟩)] w fun e w' => ∃ t, w.heap.size ≤ t ∧ e = .returned (.pointer (some ⟨t, 0, none⟩)) ∧ Ti w' t g d v ⟨false, false, false, 0, none, 0⟩ ∧ Below w.heap.size w w' := by
  go_enter Try.func10, Try.ntmps10
  go_wp2
  go_ret
  exact ⟨_, Nat.le_refl _, rfl, ti_new d g hw hw.st.lt, (Below.refl _ _).alloc (Nat.le_refl _) _⟩
set_option maxHeartbeats 400000 in
theorem tnew_nil (d : Int) (w : World) :
    Calls Try.prog 10 #[.int .i64 d, .pointer none] w fun e w' => e = .returned (.pointer none) ∧ w = w' := by
  go_enter Try.func10, Try.ntmps10
  go_wp2
  go_ret
  exact ⟨rfl, rfl⟩

theorem arm_T {W : World} {a : Int} {q : Option (Int × Int)} (T : Int) (hw : Wh 72 W g v (qL d q) a) (hok : okB d T = true) (ha : 0 ≤ a ∧ a ≤ 1000000) :
    Calls Try.prog 42 #[.pointer (some ⟨g, 0, none⟩), .int .i64 d, .int .i64 T] W (RetW 72 (.bool true) W g v (qL d (some (T, a))) (a + 1)) := by
  have hl := qL_len d q
  have := arm_any d T hw (by omega) ha
  unfold armL armA at this
  rw [hok, if_pos rfl, if_pos rfl, arm_q] at this
  exact this
/-- when it is armed for, as both texts reckon it -/
theorem due_wrap (now p : Int) (n0 : 0 ≤ now) (n1 : now ≤ 4611686018427387904) (p0 : 0 ≤ p) (p1 : p < 4294967296) : IntKind.i64.wrap (now + if IntKind.i64.wrap p < 1 then 1 else IntKind.i64.wrap p) = due now p := by
  have h1 : IntKind.i64.wrap p = p := by rw [IntKind.wrap_i64]; omega
  rw [h1]
  unfold due
  by_cases hp : p = 0
  · subst hp
    rw [if_pos (by omega), if_pos rfl, IntKind.wrap_i64]; omega
  · rw [if_neg (by omega), if_neg hp, IntKind.wrap_i64]; omega
theorem due_ok (d now p : Int) (d0 : 0 ≤ d) (d1 : d < 16) (n0 : 0 ≤ now) (p0 : 0 ≤ p) : okB d (due now p) = true := by unfold okB due; apply decide_eq_true; split <;> omega
set_option maxHeartbeats 1000000 in
theorem tarm_any (now : Int) (h : Ti w t g d v S) (ha : 0 ≤ S.a ∧ S.a ≤ 1000000) (d0 : 0 ≤ d) (d1 : d < 16) (n0 : 0 ≤ now) (n1 : now ≤ 4611686018427387904) (p0 : 0 ≤ S.p) (p1 : S.p < 4294967296) :
    Calls Try.prog 29 #[.pointer (some ⟨t, 0, none⟩), .int .i64 now] w (RetT (.tuple #[]) w t g d v (arT now S)) := by
  have hd : Ti w.drew t g d v S := h.drewN 1
  have hdw : Wh 72 w.drew g v (qL d S.q) S.a := hd.wh
  have x0 : w.drew.cell? ⟨t, 0, none⟩ = some (.int .i64 d) := h.k0
  have x1 : w.drew.cell? ⟨t, 1, none⟩ = some (.pointer (some ⟨g, 0, none⟩)) := h.k1
  have x3 : w.drew.cell? ⟨t, 3, none⟩ = some (.int .u32 S.p) := h.k3
  have HW := Lib.hid (due_wrap now S.p n0 n1 p0 p1)
  have hok := due_ok d now S.p d0 d1 n0 p0
  obtain ⟨T, HT⟩ : ∃ T, Hid (due now S.p = T) := ⟨_, rfl⟩
  have HA : Hid (arT now S = { S with q := some (T, S.a), a := S.a + 1 }) := by show _ = _; unfold arT; rw [HT.out]
  rw [HT.out] at hok HW
  obtain ⟨p, HP⟩ : ∃ p, Hid (S.p = p) := ⟨_, rfl⟩
  rw [HP.out] at x3 HW
  obtain ⟨X, HX⟩ : ∃ X, Hid ((if IntKind.i64.wrap p < 1 then 1 else IntKind.i64.wrap p) = X) := ⟨_, rfl⟩
  rw [HX.out] at HW
  clear n0 n1 p0 p1
  go_enter Try.func29, Try.ntmps29
  go_wp2_with fail
  go_region_held3 (fun w' => w'.cell? ⟨t, 0, none⟩ = some (.int .i64 d) ∧ w'.cell? ⟨t, 1, none⟩ = some (.pointer (some ⟨g, 0, none⟩)) ∧ w'.cell? ⟨t, 3, none⟩ = some (.int .u32 p)) (first | with_reducible exact ⟨x0, x1, x3⟩ | with_reducible exact ⟨y0, y1, y3⟩)
    (first
      | (go_at_call 42; rw [HX.out, HW.out]; (with_reducible refine (arm_T (W := w.drew) T hdw hok ha).mono ?_); rintro e w4 ⟨rfl, v4, hw4, hch4⟩; have ht4 := hd.wheel hw4 hch4; have y0 := ht4.k0; have y1 := ht4.k1; have y3 : w4.cell? ⟨t, 3, none⟩ = some (.int .u32 S.p) := ht4.k3; rw [HP.out] at y3))
  go_wp2
  go_end0
  exact ⟨rfl, v4, by rw [HA.out]; exact ht4, (CT.drewN t g v w 1).trans (CT.of_ch hch4)⟩
theorem cancel_T {W : World} {a : Int} {q : Option (Int × Int)} (hw : Wh 72 W g v (qL d q) a) :
    Calls Try.prog 40 #[.pointer (some ⟨g, 0, none⟩), .int .i64 d] W (RetW 72 (.bool (cancB d (qL d q))) W g v (qL d none) a) := by
  have hl := qL_len d q
  have := cancel_any d hw (by omega)
  rw [del_q] at this
  exact this
set_option maxHeartbeats 1000000 in
theorem start_any (now : Int) (h : Ti w t g d v S) (ha : 0 ≤ S.a ∧ S.a ≤ 1000000) (d0 : 0 ≤ d) (d1 : d < 16) (n0 : 0 ≤ now) (n1 : now ≤ 4611686018427387904) (p0 : 0 ≤ S.p) (p1 : S.p < 4294967296) :
    Calls Try.prog 26 #[.pointer (some ⟨t, 0, none⟩), .int .i64 now] w (RetT (.tuple #[]) w t g d v (stT now S)) := by
  have k2 := h.k2
  cases hr : S.r
  · have HA : Hid (stT now S = { S with q := none, a := S.a }) := by show _ = _; unfold stT; rw [hr]; rfl
    have hb : bits .and .u32 (cw S.r S.ag) 1 = 0 := by rw [hr]; cases S.ag <;> rfl
    have hd : Ti w.drew t g d v S := h.drewN 1
    have hdw : Wh 72 w.drew g v (qL d S.q) S.a := hd.wh
    have x0 : w.drew.cell? ⟨t, 0, none⟩ = some (.int .i64 d) := h.k0
    have x1 : w.drew.cell? ⟨t, 1, none⟩ = some (.pointer (some ⟨g, 0, none⟩)) := h.k1
    obtain ⟨c, HC⟩ : ∃ c, Hid (cw S.r S.ag = c) := ⟨_, rfl⟩
    rw [HC.out] at k2 hb
    clear n0 n1 p0 p1 hr
    go_enter Try.func26, Try.ntmps26
    go_wp2_with fail
    go_region_held3 (fun w' => w'.cell? ⟨t, 0, none⟩ = some (.int .i64 d) ∧ w'.cell? ⟨t, 1, none⟩ = some (.pointer (some ⟨g, 0, none⟩))) (first | with_reducible exact ⟨x0, x1⟩ | with_reducible exact ⟨y0, y1⟩)
      (first
        | (go_at_call 40; (with_reducible refine (cancel_T (W := w.drew) hdw).mono ?_); rintro e w4 ⟨rfl, v4, hw4, hch4⟩; have ht4 := hd.wheel hw4 hch4; have y0 := ht4.k0; have y1 := ht4.k1))
    go_wp2
    go_end0
    exact ⟨rfl, v4, by rw [HA.out]; exact ht4, (CT.drewN t g v w 1).trans (CT.of_ch hch4)⟩
  · have HA : Hid (stT now S = arT now S) := by show _ = _; unfold stT; rw [hr]; rfl
    have hb : bits .and .u32 (cw S.r S.ag) 1 = 1 := by rw [hr]; cases S.ag <;> rfl
    obtain ⟨c, HC⟩ : ∃ c, Hid (cw S.r S.ag = c) := ⟨_, rfl⟩
    rw [HC.out] at k2 hb
    clear hr
    go_enter Try.func26, Try.ntmps26
    go_wp2_with fail
    with_reducible refine (tarm_any now h ha d0 d1 n0 n1 p0 p1).mono ?_
    rintro e w1 ⟨rfl, v2, h2, c2⟩
    go_wp2
    go_end0
    exact ⟨rfl, v2, by rw [HA.out]; exact h2, c2⟩
set_option maxHeartbeats 1000000 in
theorem write_any (k : Nat) (z x now : Int) (h : Ti w t g d v S) (hk : k ≤ 4) (hz : z = (k : Int) * 4) (x0 : 0 ≤ x) (x1 : x < 4294967296) (ha : 0 ≤ S.a ∧ S.a ≤ 1000000) (d0 : 0 ≤ d) (d1 : d < 16) (n0 : 0 ≤ now) (n1 : now ≤ 4611686018427387904) (p0 : 0 ≤ S.p) (p1 : S.p < 4294967296) :
    Calls Try.prog 11 #[.pointer (some ⟨t, 0, none⟩), .int .u32 z, .int .u32 x, .int .i64 now] w (RetT (.bool (decide (k < 3))) w t g d v (wrT k x now S)) := by
  subst hz
  have : k = 0 ∨ k = 1 ∨ k = 2 ∨ k = 3 ∨ k = 4 := by omega
  have k2 := h.k2
  have k3 := h.k3
  have k4 := h.k4
  have f2 := h.tm.frozen 2
  have f3 := h.tm.frozen 3
  have f4 := h.tm.frozen 4
  rcases this with rfl | rfl | rfl | rfl | rfl
  · have hb := ct_and3 x x0 x1
    have h1 := h.setC (decide (x % 2 = 1)) (decide (x / 2 % 2 = 1))
    have H : Hid (Ti (w.setCell ⟨t, 2, none⟩ (.int .u32 (cw (decide (x % 2 = 1)) (decide (x / 2 % 2 = 1))))) t g d v (ctT x S)) := Lib.hid h1
    have HC : Hid (CT t g v v w (w.setCell ⟨t, 2, none⟩ (.int .u32 (cw (decide (x % 2 = 1)) (decide (x / 2 % 2 = 1)))))) := Lib.hid (CT.set t g v w 2 _)
    rw [← hb] at H HC
    have ha' : 0 ≤ (ctT x S).a ∧ (ctT x S).a ≤ 1000000 := ha
    have p0' : 0 ≤ (ctT x S).p := p0
    have p1' : (ctT x S).p < 4294967296 := p1
    clear h1 hb x0 x1
    go_enter Try.func11, Try.ntmps11
    go_wp2_with fail
    with_reducible refine (start_any now H.out ha' d0 d1 n0 n1 p0' p1').mono ?_
    rintro e w1 ⟨rfl, v2, h2, c2⟩
    go_wp2
    go_ret
    exact ⟨rfl, v2, h2, HC.out.trans c2⟩
  · go_enter Try.func11, Try.ntmps11
    go_wp2
    go_ret
    exact ⟨rfl, v, h.setP x, CT.set t g v w 3 _⟩
  · have hb := ct_and1 x x0 x1
    have hc := ct_clr x S.s
    have H : Hid (Ti (w.setCell ⟨t, 4, none⟩ (.int .u32 (ib (if x % 2 = 1 then false else S.s)))) t g d v (fgT x S)) := Lib.hid (h.setS _)
    rw [← hc, ← hb] at H
    clear hb hc x0 x1
    go_enter Try.func11, Try.ntmps11
    go_wp2
    go_ret
    exact ⟨rfl, v, H.out, CT.set t g v w 4 _⟩
  · go_enter Try.func11, Try.ntmps11
    go_wp2
    go_ret
    exact ⟨rfl, v, h, CT.refl t g v w⟩
  · go_enter Try.func11, Try.ntmps11
    go_wp2
    go_ret
    exact ⟨rfl, v, h, CT.refl t g v w⟩
set_option maxHeartbeats 1000000 in
theorem fire_any (now : Int) (h : Ti w t g d v S) (ha : 0 ≤ S.a ∧ S.a ≤ 1000000) (d0 : 0 ≤ d) (d1 : d < 16) (n0 : 0 ≤ now) (n1 : now ≤ 4611686018427387904) (p0 : 0 ≤ S.p) (p1 : S.p < 4294967296) :
    Calls Try.prog 14 #[.pointer (some ⟨t, 0, none⟩), .int .i64 now] w (RetT (.tuple #[]) w t g d v (fiT now S)) := by
  have k2 := h.k2
  have k4 := h.k4
  have f2 := h.tm.frozen 2
  have f4 := h.tm.frozen 4
  have hs : bits .or .u32 (ib S.s) 1 = ib true := by cases S.s <;> rfl
  have H := Lib.hid (h.setS true)
  have HC := Lib.hid (CT.set t g v w 4 (.int .u32 (ib true)))
  rw [← hs] at H HC
  cases hr : S.ag
  · have HA : Hid (fiT now S = { S with s := true, r := false, ag := false }) := by show _ = _; unfold fiT; rw [hr, if_neg (by decide), ← hr]
    have hb : bits .and .u32 (cw S.r S.ag) 2 = 0 := by rw [hr]; cases S.r <;> rfl
    have hn : bits .andNot .u32 (cw S.r S.ag) 1 = cw false false := by rw [hr]; cases S.r <;> rfl
    have H2 := Lib.hid (H.out.setC false false)
    have HC2 := Lib.hid (HC.out.trans (CT.set t g v _ 2 (.int .u32 (cw false false))))
    rw [← hn] at H2 HC2
    obtain ⟨c, HCw⟩ : ∃ c, Hid (cw S.r S.ag = c) := ⟨_, rfl⟩
    rw [HCw.out] at k2 hb H2 HC2
    clear n0 n1 p0 p1 hr hn hs
    go_enter Try.func14, Try.ntmps14
    go_wp2
    go_end0
    exact ⟨rfl, v, by rw [HA.out]; exact H2.out, HC2.out⟩
  · have HA : Hid (fiT now S = arT now { S with s := true }) := by show _ = _; unfold fiT; rw [hr]; rfl
    have hb : bits .and .u32 (cw S.r S.ag) 2 = 2 := by rw [hr]; cases S.r <;> rfl
    obtain ⟨c, HCw⟩ : ∃ c, Hid (cw S.r S.ag = c) := ⟨_, rfl⟩
    rw [HCw.out] at k2 hb
    clear hr hs
    go_enter Try.func14, Try.ntmps14
    go_wp2_with fail
    with_reducible refine (tarm_any now H.out ha d0 d1 n0 n1 p0 p1).mono ?_
    rintro e w1 ⟨rfl, v2, h2, c2⟩
    go_wp2
    go_end0
    exact ⟨rfl, v2, by rw [HA.out]; exact h2, HC.out.trans c2⟩
set_option maxHeartbeats 1000000 in
theorem line_any (h : Ti w t g d v S) :
    Calls Try.prog 15 #[.pointer (some ⟨t, 0, none⟩)] w fun e w' => e = .returned (.bool S.s) ∧ w = w' := by
  have k4 := h.k4
  cases hs : S.s
  all_goals
    rw [hs] at k4
    simp only [ib] at k4
    clear hs
    go_enter Try.func15, Try.ntmps15
    go_wp2
    go_ret
    exact ⟨rfl, rfl⟩
set_option maxHeartbeats 1000000 in
theorem read_any (k : Nat) (z : Int) (h : Ti w t g d v S) (hk : k ≤ 4) (hz : z = (k : Int) * 4) :
    Calls Try.prog 16 #[.pointer (some ⟨t, 0, none⟩), .int .u32 z] w fun e w' => e = .returned (.tuple #[.int .u32 (wordT k S), .bool (decide (k < 3))]) ∧ w = w' := by
  subst hz
  have : k = 0 ∨ k = 1 ∨ k = 2 ∨ k = 3 ∨ k = 4 := by omega
  have k2 := h.k2
  have k3 := h.k3
  have k4 := h.k4
  rcases this with rfl | rfl | rfl | rfl | rfl
  all_goals
    go_enter Try.func16, Try.ntmps16
    go_wp2
    go_ret2
    exact ⟨rfl, rfl⟩
end
end Go.Proofs.Ytgpphbganpoinaa
