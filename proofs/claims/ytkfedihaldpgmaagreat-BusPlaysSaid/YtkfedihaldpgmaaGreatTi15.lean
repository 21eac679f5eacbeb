/-
  Chapter 15: a timer in memory, beside a wheel of any events; the functions of package timer.
-/
import Derived.Test.YtkfedihaldpgmaaGreatBy15
import Derived.Deep.RegionHeld3
namespace Go.Proofs.YtkfedihaldpgmaaGreat
open Go.RowKit
set_option linter.unusedVariables false
set_option linter.unusedSimpArgs false

/-- what a timer is: it runs, again, its period, it fired; when it is due and which Arm's that is; the wheel's next number -/
structure TS where
  r : Bool
  ag : Bool
  s : Bool
  p : Int
  L : List Ev
  a : Int
def arT (d t : Int) (S : TS) : TS := { S with L := armF d (due t S.p) S.a S.L, a := S.a + 1 }
/-- control is the lowest two bits of v -/
def ctT (v : Int) (S : TS) : TS := { S with r := decide (v % 2 = 1), ag := decide (v / 2 % 2 = 1) }
def stT (d now : Int) (S : TS) : TS := if S.r then arT d now S else { S with L := delF d S.L }
def fgT (v : Int) (S : TS) : TS := { S with s := if v % 2 = 1 then false else S.s }
/-- what Write at word k leaves -/
def wrT (d : Int) (k : Nat) (v now : Int) (S : TS) : TS := match k with
  | 0 => stT d now (ctT v S)
  | 1 => { S with p := v }
  | 2 => fgT v S
  | _ => S
/-- what Fire leaves -/
def fiT (d at_ : Int) (S : TS) : TS := if S.ag then arT d at_ { S with s := true } else { S with s := true, r := false }
def wordT (k : Nat) (S : TS) : Int := match k with
  | 0 => cwB S.r S.ag
  | 1 => S.p
  | 2 => ibB S.s
  | _ => 0
/-! a timer in memory -/
def tm5 (d : Int) (g : Nat) (c p s : Int) : Nat → Value
  | 0 => .int .i64 d
  | 1 => .pointer (some ⟨g, 0, none⟩)
  | 2 => .int .u32 c
  | 3 => .int .u32 p
  | _ => .int .u32 s
/-- block t is a timer of device d on the wheel in block g (its slice: v); it is S -/
structure Ti (w : World) (t g : Nat) (d : Int) (v : Value) (S : TS) : Prop where
  tm : w.rowIs t 138 5 (tm5 d g (cwB S.r S.ag) S.p (ibB S.s))
  wh : Wh 125 w g v (S.L) S.a
  no : ¬ Own g v t
def OwnT (t g : Nat) (v : Value) (k : Nat) : Prop := k = t ∨ Own g v k
/-- of what was there the timer's own blocks alone have turned -/
structure CT (t g : Nat) (v v2 : Value) (w w' : World) : Prop where
  fr : Fr (OwnT t g v) w w'
  nw : ∀ k, v2.ownBlock = some k → v.ownBlock = some k ∨ w.heap.size ≤ k
section
variable {w w' w1 w2 : World} {t g : Nat} {d : Int} {v v2 v3 : Value} {S S2 : TS}
theorem CT.refl (t g : Nat) (v : Value) (w : World) : CT t g v v w w := ⟨Fr.refl _ _, fun _ h => .inl h⟩
theorem CT.of_ch (h : Ch g v v2 w w') : CT t g v v2 w w' := ⟨h.fr.mono (fun _ e => .inr e), h.nw⟩
theorem CT.of_below (b : Below w.heap.size w w') : CT t g v v w w' := ⟨Fr.of_below b, fun _ h => .inl h⟩
theorem CT.trans (h : CT t g v v2 w w1) (k : CT t g v2 v3 w1 w2) : CT t g v v3 w w2 := by
  refine ⟨⟨k.fr.os.trans h.fr.os, k.fr.tape.trans h.fr.tape, k.fr.output.trans h.fr.output, Nat.le_trans h.fr.size k.fr.size, fun i hi hn => ?_⟩, fun i hi => ?_⟩
  · refine (k.fr.block i (Nat.lt_of_lt_of_le hi h.fr.size) ?_).trans (h.fr.block i hi hn)
    rintro (e | e | e)
    · exact hn (.inl e)
    · exact hn (.inr (.inl e))
    · rcases h.nw i e with e | e
      · exact hn (.inr (.inr e))
      · omega
  · rcases k.nw i hi with e | e
    · exact h.nw i e
    · exact .inr (Nat.le_trans h.fr.size e)
theorem CT.set (t g : Nat) (v : Value) (w : World) (i : Nat) (u : Value) : CT t g v v w (w.setCell ⟨t, i, none⟩ u) := ⟨(Fr.refl (OwnT t g v) w).setCell (x := ⟨t, i, none⟩) (.inl (show OwnT t g v t from .inl rfl)) u, fun _ h => .inl h⟩
theorem CT.drewN (t g : Nat) (v : Value) (w : World) (n : Nat) : CT t g v v w (w.drewN n) := ⟨(Fr.refl (OwnT t g v) w).drewN n, fun _ h => .inl h⟩
theorem Ti.k0 (h : Ti w t g d v S) : w.cell? ⟨t, 0, none⟩ = some (.int .i64 d) := h.tm.cell (i := 0) (by omega)
theorem Ti.k1 (h : Ti w t g d v S) : w.cell? ⟨t, 1, none⟩ = some (.pointer (some ⟨g, 0, none⟩)) := h.tm.cell (i := 1) (by omega)
theorem Ti.k2 (h : Ti w t g d v S) : w.cell? ⟨t, 2, none⟩ = some (.int .u32 (cwB S.r S.ag)) := h.tm.cell (i := 2) (by omega)
theorem Ti.k3 (h : Ti w t g d v S) : w.cell? ⟨t, 3, none⟩ = some (.int .u32 S.p) := h.tm.cell (i := 3) (by omega)
theorem Ti.k4 (h : Ti w t g d v S) : w.cell? ⟨t, 4, none⟩ = some (.int .u32 (ibB S.s)) := h.tm.cell (i := 4) (by omega)
theorem Ti.fr {Q : Nat → Prop} (h : Ti w t g d v S) (f : Fr Q w w') (hs : ∀ k, OwnT t g v k → ¬ Q k) : Ti w' t g d v S :=
  ⟨h.tm.of_block (f.block _ h.tm.lt (hs t (.inl rfl))), h.wh.fr f (fun k hk => hs k (.inr hk)), h.no⟩
theorem Ti.lt (h : Ti w t g d v S) : ∀ k, OwnT t g v k → k < w.heap.size := by
  rintro k (rfl | hk)
  · exact h.tm.lt
  · exact h.wh.lt k hk
theorem Ti.drewN (h : Ti w t g d v S) (n : Nat) : Ti (w.drewN n) t g d v S := h.fr ((Fr.refl (fun _ => False) w).drewN n) (fun _ _ => id)
theorem Ti.below (h : Ti w t g d v S) (b : Below w.heap.size w w') : Ti w' t g d v S := h.fr (Fr.of_below (S := fun _ => False) b) (fun _ _ => id)
/-- its wheel is another one -/
theorem Ti.wheel (h : Ti w t g d v S) {L : List Ev} {a : Int} (hw : Wh 125 w' g v2 L a) (hch : Ch g v v2 w w') : Ti w' t g d v2 { S with L := L, a := a } := by
  refine ⟨h.tm.of_block (hch.fr.block _ h.tm.lt h.no), hw, ?_⟩
  rintro (e | e)
  · exact h.no (.inl e)
  · rcases hch.nw _ e with e | e
    · exact h.no (.inr e)
    · have := h.tm.lt; omega
theorem Ti.setW (h : Ti w t g d v S) (i : Nat) (u : Value) (c p s : Int) (hu : ∀ j, j < 5 → (if j = i then u else tm5 d g (cwB S.r S.ag) S.p (ibB S.s) j) = tm5 d g c p s j) :
    (w.setCell ⟨t, i, none⟩ u).rowIs t 138 5 (tm5 d g c p s) ∧ Wh 125 (w.setCell ⟨t, i, none⟩ u) g v (S.L) S.a :=
  ⟨(h.tm.set i u).congr hu, h.wh.fr ((Fr.refl (fun k => k = t) w).setCell (x := ⟨t, i, none⟩) (.inl rfl) u) (fun k hk e => h.no (e ▸ hk))⟩
theorem Ti.setC (h : Ti w t g d v S) (r ag : Bool) : Ti (w.setCell ⟨t, 2, none⟩ (.int .u32 (cwB r ag))) t g d v { S with r := r, ag := ag } := by
  obtain ⟨h1, h2⟩ := h.setW 2 (.int .u32 (cwB r ag)) (cwB r ag) S.p (ibB S.s) (fun j hj => by
    have : j = 0 ∨ j = 1 ∨ j = 2 ∨ j = 3 ∨ j = 4 := by omega
    rcases this with rfl | rfl | rfl | rfl | rfl <;> rfl)
  exact ⟨h1, h2, h.no⟩
theorem Ti.setP (h : Ti w t g d v S) (p : Int) : Ti (w.setCell ⟨t, 3, none⟩ (.int .u32 p)) t g d v { S with p := p } := by
  obtain ⟨h1, h2⟩ := h.setW 3 (.int .u32 p) (cwB S.r S.ag) p (ibB S.s) (fun j hj => by
    have : j = 0 ∨ j = 1 ∨ j = 2 ∨ j = 3 ∨ j = 4 := by omega
    rcases this with rfl | rfl | rfl | rfl | rfl <;> rfl)
  exact ⟨h1, h2, h.no⟩
theorem Ti.setS (h : Ti w t g d v S) (s : Bool) : Ti (w.setCell ⟨t, 4, none⟩ (.int .u32 (ibB s))) t g d v { S with s := s } := by
  obtain ⟨h1, h2⟩ := h.setW 4 (.int .u32 (ibB s)) (cwB S.r S.ag) S.p (ibB s) (fun j hj => by
    have : j = 0 ∨ j = 1 ∨ j = 2 ∨ j = 3 ∨ j = 4 := by omega
    rcases this with rfl | rfl | rfl | rfl | rfl <;> rfl)
  exact ⟨h1, h2, h.no⟩
end
/-- it returns x; the timer is S2 then -/
def RetT (x : Value) (w : World) (t g : Nat) (d : Int) (v : Value) (S2 : TS) (e : Ending) (w' : World) : Prop :=
  e = .returned x ∧ ∃ v2, Ti w' t g d v2 S2 ∧ CT t g v v2 w w'

theorem ct_clr (v : Int) (s : Bool) : bits .andNot .u32 (ibB s) (ibB (decide (v % 2 = 1))) = ibB (if v % 2 = 1 then false else s) := by
  by_cases a1 : v % 2 = 1 <;> simp only [a1, decide_true, decide_false, if_true, if_false] <;> cases s <;> rfl
section
variable {w : World} {t g : Nat} {d : Int} {v : Value} {S : TS}
theorem ti_new (d : Int) (g : Nat) {L : List Ev} {a : Int} (hw : Wh 125 w g v L a) (hn : g < w.heap.size) :
    Ti (w.alloc (.cells #[.int .i64 d, .pointer (some ⟨g, 0, none⟩), .int .u32 0, .int .u32 0, .int .u32 0] 138)) w.heap.size g d v ⟨false, false, false, 0, L, a⟩ := by
  refine ⟨World.rowIs_alloc w _ _ _ fun i hi => ?_, hw.below ((Below.refl _ _).alloc (Nat.le_refl _) _), fun e => Nat.lt_irrefl _ (hw.lt _ e)⟩
  have : i = 0 ∨ i = 1 ∨ i = 2 ∨ i = 3 ∨ i = 4 := by have : i < 5 := hi; omega
  rcases this with rfl | rfl | rfl | rfl | rfl <;> rfl
set_option maxHeartbeats 400000 in
theorem tnew_any (d : Int) {L : List Ev} {a : Int} (hw : Wh 125 w g v L a) :
    Calls Tryz.prog 56 #[.int .i64 d, .pointer (some ⟨g, 0, none⟩)] w fun e w' => ∃ t, w.heap.size ≤ t ∧ e = .returned (.pointer (some ⟨t, 0, none⟩)) ∧ Ti w' t g d v ⟨false, false, false, 0, L, a⟩ ∧ Below w.heap.size w w' := by
  go_enter Tryz.func56, Tryz.ntmps56
  go_wp2
  go_ret
  exact ⟨_, Nat.le_refl _, rfl, ti_new d g hw hw.st.lt, (Below.refl _ _).alloc (Nat.le_refl _) _⟩
theorem arm_S {W : World} {g : Nat} {v : Value} {a : Int} {L : List Ev} (d T : Int) (hw : Wh 125 W g v L a) (hok : okB d T = true) (hl : L.length ≤ 990000) (ha : 0 ≤ a ∧ a ≤ 1000000) :
    Calls Tryz.prog 113 #[.pointer (some ⟨g, 0, none⟩), .int .i64 d, .int .i64 T] W (RetW 125 (.bool true) W g v (armF d T a L) (a + 1)) := by
  have := arm_any d T hw (by omega) ha
  unfold armL armA at this
  rw [hok, if_pos rfl, if_pos rfl] at this
  exact this
theorem cancel_S {W : World} {g : Nat} {v : Value} {a : Int} {L : List Ev} (d : Int) (hw : Wh 125 W g v L a) (hl : L.length ≤ 990000) :
    Calls Tryz.prog 114 #[.pointer (some ⟨g, 0, none⟩), .int .i64 d] W (RetW 125 (.bool (cancB d L)) W g v (delF d L) a) := cancel_any d hw (by omega)
set_option maxHeartbeats 1000000 in
theorem tarm_any (now : Int) (h : Ti w t g d v S) (hl : S.L.length ≤ 990000) (ha : 0 ≤ S.a ∧ S.a ≤ 1000000) (d0 : 0 ≤ d) (d1 : d < 16) (n0 : 0 ≤ now) (n1 : now ≤ 4611686018427387904) (p0 : 0 ≤ S.p) (p1 : S.p < 4294967296) :
    Calls Tryz.prog 133 #[.pointer (some ⟨t, 0, none⟩), .int .i64 now] w (RetT (.tuple #[]) w t g d v (arT d now S)) := by
  have hd : Ti w.drew t g d v S := h.drewN 1
  have hdw : Wh 125 w.drew g v (S.L) S.a := hd.wh
  have x0 : w.drew.cell? ⟨t, 0, none⟩ = some (.int .i64 d) := h.k0
  have x1 : w.drew.cell? ⟨t, 1, none⟩ = some (.pointer (some ⟨g, 0, none⟩)) := h.k1
  have x3 : w.drew.cell? ⟨t, 3, none⟩ = some (.int .u32 S.p) := h.k3
  have HW := Lib.hid (due_wrap now S.p n0 n1 p0 p1)
  have hok := due_ok d now S.p d0 d1 n0 p0
  obtain ⟨T, HT⟩ : ∃ T, Hid (due now S.p = T) := ⟨_, rfl⟩
  have HA : Hid (arT d now S = { S with L := armF d T S.a S.L, a := S.a + 1 }) := by show _ = _; unfold arT; rw [HT.out]
  rw [HT.out] at hok HW
  obtain ⟨p, HP⟩ : ∃ p, Hid (S.p = p) := ⟨_, rfl⟩
  rw [HP.out] at x3 HW
  obtain ⟨X, HX⟩ : ∃ X, Hid ((if IntKind.i64.wrap p < 1 then 1 else IntKind.i64.wrap p) = X) := ⟨_, rfl⟩
  rw [HX.out] at HW
  clear n0 n1 p0 p1
  go_enter Tryz.func133, Tryz.ntmps133
  go_wp2_with fail
  go_region_held3 (fun w' => w'.cell? ⟨t, 0, none⟩ = some (.int .i64 d) ∧ w'.cell? ⟨t, 1, none⟩ = some (.pointer (some ⟨g, 0, none⟩)) ∧ w'.cell? ⟨t, 3, none⟩ = some (.int .u32 p)) (first | with_reducible exact ⟨x0, x1, x3⟩ | with_reducible exact ⟨y0, y1, y3⟩)
    (first
      | (go_at_call 113; rw [HX.out, HW.out]; (with_reducible refine (arm_S (W := w.drew) d T hdw hok hl ha).mono ?_); rintro e w4 ⟨rfl, v4, hw4, hch4⟩; have ht4 := hd.wheel hw4 hch4; have y0 := ht4.k0; have y1 := ht4.k1; have y3 : w4.cell? ⟨t, 3, none⟩ = some (.int .u32 S.p) := ht4.k3; rw [HP.out] at y3))
  go_wp2
  go_end0
  exact ⟨rfl, v4, by rw [HA.out]; exact ht4, (CT.drewN t g v w 1).trans (CT.of_ch hch4)⟩
set_option maxHeartbeats 1000000 in
theorem tstart_any (now : Int) (h : Ti w t g d v S) (hl : S.L.length ≤ 990000) (ha : 0 ≤ S.a ∧ S.a ≤ 1000000) (d0 : 0 ≤ d) (d1 : d < 16) (n0 : 0 ≤ now) (n1 : now ≤ 4611686018427387904) (p0 : 0 ≤ S.p) (p1 : S.p < 4294967296) :
    Calls Tryz.prog 134 #[.pointer (some ⟨t, 0, none⟩), .int .i64 now] w (RetT (.tuple #[]) w t g d v (stT d now S)) := by
  have k2 := h.k2
  cases hr : S.r
  · have HA : Hid (stT d now S = { S with L := delF d S.L, a := S.a }) := by show _ = _; unfold stT; rw [hr]; rfl
    have hb : bits .and .u32 (cwB S.r S.ag) 1 = 0 := by rw [hr]; cases S.ag <;> rfl
    have hd : Ti w.drew t g d v S := h.drewN 1
    have hdw : Wh 125 w.drew g v (S.L) S.a := hd.wh
    have x0 : w.drew.cell? ⟨t, 0, none⟩ = some (.int .i64 d) := h.k0
    have x1 : w.drew.cell? ⟨t, 1, none⟩ = some (.pointer (some ⟨g, 0, none⟩)) := h.k1
    obtain ⟨c, HC⟩ : ∃ c, Hid (cwB S.r S.ag = c) := ⟨_, rfl⟩
    rw [HC.out] at k2 hb
    clear n0 n1 p0 p1 hr
    go_enter Tryz.func134, Tryz.ntmps134
    go_wp2_with fail
    go_region_held3 (fun w' => w'.cell? ⟨t, 0, none⟩ = some (.int .i64 d) ∧ w'.cell? ⟨t, 1, none⟩ = some (.pointer (some ⟨g, 0, none⟩))) (first | with_reducible exact ⟨x0, x1⟩ | with_reducible exact ⟨y0, y1⟩)
      (first
        | (go_at_call 114; (with_reducible refine (cancel_S (W := w.drew) d hdw hl).mono ?_); rintro e w4 ⟨rfl, v4, hw4, hch4⟩; have ht4 := hd.wheel hw4 hch4; have y0 := ht4.k0; have y1 := ht4.k1))
    go_wp2
    go_end0
    exact ⟨rfl, v4, by rw [HA.out]; exact ht4, (CT.drewN t g v w 1).trans (CT.of_ch hch4)⟩
  · have HA : Hid (stT d now S = arT d now S) := by show _ = _; unfold stT; rw [hr]; rfl
    have hb : bits .and .u32 (cwB S.r S.ag) 1 = 1 := by rw [hr]; cases S.ag <;> rfl
    obtain ⟨c, HC⟩ : ∃ c, Hid (cwB S.r S.ag = c) := ⟨_, rfl⟩
    rw [HC.out] at k2 hb
    clear hr
    go_enter Tryz.func134, Tryz.ntmps134
    go_wp2_with fail
    with_reducible refine (tarm_any now h hl ha d0 d1 n0 n1 p0 p1).mono ?_
    rintro e w1 ⟨rfl, v2, h2, c2⟩
    go_wp2
    go_end0
    exact ⟨rfl, v2, by rw [HA.out]; exact h2, c2⟩
set_option maxHeartbeats 1000000 in
theorem twrite_any (k : Nat) (z x now : Int) (h : Ti w t g d v S) (hk : k ≤ 15) (hz : z = (k : Int) * 4) (x0 : 0 ≤ x) (x1 : x < 4294967296) (hl : S.L.length ≤ 990000) (ha : 0 ≤ S.a ∧ S.a ≤ 1000000) (d0 : 0 ≤ d) (d1 : d < 16) (n0 : 0 ≤ now) (n1 : now ≤ 4611686018427387904) (p0 : 0 ≤ S.p) (p1 : S.p < 4294967296) :
    Calls Tryz.prog 132 #[.pointer (some ⟨t, 0, none⟩), .int .u32 z, .int .u32 x, .int .i64 now] w (RetT (.bool (decide (k < 3))) w t g d v (wrT d k x now S)) := by
  subst hz
  have : k = 0 ∨ k = 1 ∨ k = 2 ∨ 3 ≤ k := by omega
  have k2 := h.k2
  have k3 := h.k3
  have k4 := h.k4
  have f2 := h.tm.frozen 2
  have f3 := h.tm.frozen 3
  have f4 := h.tm.frozen 4
  rcases this with rfl | rfl | rfl | h3
  · have hb := ct_and3 x x0 x1
    have h1 := h.setC (decide (x % 2 = 1)) (decide (x / 2 % 2 = 1))
    have H : Hid (Ti (w.setCell ⟨t, 2, none⟩ (.int .u32 (cwB (decide (x % 2 = 1)) (decide (x / 2 % 2 = 1))))) t g d v (ctT x S)) := Lib.hid h1
    have HC : Hid (CT t g v v w (w.setCell ⟨t, 2, none⟩ (.int .u32 (cwB (decide (x % 2 = 1)) (decide (x / 2 % 2 = 1)))))) := Lib.hid (CT.set t g v w 2 _)
    rw [← hb] at H HC
    have hl' : (ctT x S).L.length ≤ 990000 := hl
    have ha' : 0 ≤ (ctT x S).a ∧ (ctT x S).a ≤ 1000000 := ha
    have p0' : 0 ≤ (ctT x S).p := p0
    have p1' : (ctT x S).p < 4294967296 := p1
    clear h1 hb x0 x1
    go_enter Tryz.func132, Tryz.ntmps132
    go_wp2_with fail
    with_reducible refine (tstart_any now H.out hl' ha' d0 d1 n0 n1 p0' p1').mono ?_
    rintro e w1 ⟨rfl, v2, h2, c2⟩
    go_wp2
    go_ret
    exact ⟨rfl, v2, h2, HC.out.trans c2⟩
  · go_enter Tryz.func132, Tryz.ntmps132
    go_wp2
    go_ret
    exact ⟨rfl, v, h.setP x, CT.set t g v w 3 _⟩
  · have hb := ct_and1 x x0 x1
    have hc := ct_clr x S.s
    have H : Hid (Ti (w.setCell ⟨t, 4, none⟩ (.int .u32 (ibB (if x % 2 = 1 then false else S.s)))) t g d v (fgT x S)) := Lib.hid (h.setS _)
    rw [← hc, ← hb] at H
    clear hb hc x0 x1
    go_enter Tryz.func132, Tryz.ntmps132
    go_wp2
    go_ret
    exact ⟨rfl, v, H.out, CT.set t g v w 4 _⟩
  · have HA : Hid (wrT d k x now S = S) := by
      show _ = _
      match k, h3 with
      | k + 3, _ => rfl
    have HZ : Hid (decide (k < 3) = false) := Lib.hid (decide_eq_false (by omega))
    obtain ⟨z, hz⟩ : ∃ z, (k : Int) * 4 = z := ⟨_, rfl⟩
    have z0 : (z == 0) = false := beq_false_of_ne (by omega)
    have z1 : (z == 4) = false := beq_false_of_ne (by omega)
    have z2 : (z == 8) = false := beq_false_of_ne (by omega)
    rw [hz]
    clear hz h3 hk
    go_enter Tryz.func132, Tryz.ntmps132
    go_wp2
    go_ret
    exact ⟨by rw [HZ.out]; rfl, v, by rw [HA.out]; exact h, CT.refl t g v w⟩
set_option maxHeartbeats 1000000 in
theorem tfire_any (now : Int) (h : Ti w t g d v S) (hl : S.L.length ≤ 990000) (ha : 0 ≤ S.a ∧ S.a ≤ 1000000) (d0 : 0 ≤ d) (d1 : d < 16) (n0 : 0 ≤ now) (n1 : now ≤ 4611686018427387904) (p0 : 0 ≤ S.p) (p1 : S.p < 4294967296) :
    Calls Tryz.prog 129 #[.pointer (some ⟨t, 0, none⟩), .int .i64 now] w (RetT (.tuple #[]) w t g d v (fiT d now S)) := by
  have k2 := h.k2
  have k4 := h.k4
  have f2 := h.tm.frozen 2
  have f4 := h.tm.frozen 4
  have hs : bits .or .u32 (ibB S.s) 1 = ibB true := by cases S.s <;> rfl
  have H := Lib.hid (h.setS true)
  have HC := Lib.hid (CT.set t g v w 4 (.int .u32 (ibB true)))
  rw [← hs] at H HC
  cases hr : S.ag
  · have HA : Hid (fiT d now S = { S with s := true, r := false, ag := false }) := by show _ = _; unfold fiT; rw [hr, if_neg (by decide), ← hr]
    have hb : bits .and .u32 (cwB S.r S.ag) 2 = 0 := by rw [hr]; cases S.r <;> rfl
    have hn : bits .andNot .u32 (cwB S.r S.ag) 1 = cwB false false := by rw [hr]; cases S.r <;> rfl
    have H2 := Lib.hid (H.out.setC false false)
    have HC2 := Lib.hid (HC.out.trans (CT.set t g v _ 2 (.int .u32 (cwB false false))))
    rw [← hn] at H2 HC2
    obtain ⟨c, HCw⟩ : ∃ c, Hid (cwB S.r S.ag = c) := ⟨_, rfl⟩
    rw [HCw.out] at k2 hb H2 HC2
    clear n0 n1 p0 p1 hr hn hs
    go_enter Tryz.func129, Tryz.ntmps129
    go_wp2
    go_end0
    exact ⟨rfl, v, by rw [HA.out]; exact H2.out, HC2.out⟩
  · have HA : Hid (fiT d now S = arT d now { S with s := true }) := by show _ = _; unfold fiT; rw [hr]; rfl
    have hb : bits .and .u32 (cwB S.r S.ag) 2 = 2 := by rw [hr]; cases S.r <;> rfl
    obtain ⟨c, HCw⟩ : ∃ c, Hid (cwB S.r S.ag = c) := ⟨_, rfl⟩
    rw [HCw.out] at k2 hb
    clear hr hs
    go_enter Tryz.func129, Tryz.ntmps129
    go_wp2_with fail
    with_reducible refine (tarm_any now H.out (show S.L.length ≤ 990000 from hl) ha d0 d1 n0 n1 p0 p1).mono ?_
    rintro e w1 ⟨rfl, v2, h2, c2⟩
    go_wp2
    go_end0
    exact ⟨rfl, v2, by rw [HA.out]; exact h2, HC.out.trans c2⟩
set_option maxHeartbeats 1000000 in
theorem tline_any (h : Ti w t g d v S) :
    Calls Tryz.prog 130 #[.pointer (some ⟨t, 0, none⟩)] w fun e w' => e = .returned (.bool S.s) ∧ w = w' := by
  have k4 := h.k4
  cases hs : S.s
  all_goals
    rw [hs] at k4
    simp only [ibB] at k4
    clear hs
    go_enter Tryz.func130, Tryz.ntmps130
    go_wp2
    go_ret
    exact ⟨rfl, rfl⟩
set_option maxHeartbeats 1000000 in
theorem tread_any (k : Nat) (z : Int) (h : Ti w t g d v S) (hk : k ≤ 15) (hz : z = (k : Int) * 4) :
    Calls Tryz.prog 131 #[.pointer (some ⟨t, 0, none⟩), .int .u32 z] w fun e w' => e = .returned (.tuple #[.int .u32 (wordT k S), .bool (decide (k < 3))]) ∧ w = w' := by
  subst hz
  have : k = 0 ∨ k = 1 ∨ k = 2 ∨ 3 ≤ k := by omega
  have k2 := h.k2
  have k3 := h.k3
  have k4 := h.k4
  rcases this with rfl | rfl | rfl | h3
  rotate_left 3
  · have HA : Hid (wordT k S = 0) := by
      show _ = _
      match k, h3 with
      | k + 3, _ => rfl
    have HZ : Hid (decide (k < 3) = false) := Lib.hid (decide_eq_false (by omega))
    obtain ⟨z, hz⟩ : ∃ z, (k : Int) * 4 = z := ⟨_, rfl⟩
    have z0 : (z == 0) = false := beq_false_of_ne (by omega)
    have z1 : (z == 4) = false := beq_false_of_ne (by omega)
    have z2 : (z == 8) = false := beq_false_of_ne (by omega)
    rw [hz]
    clear hz h3 hk
    go_enter Tryz.func131, Tryz.ntmps131
    go_wp2
    go_ret2
    exact ⟨by rw [HA.out, HZ.out]; rfl, rfl⟩
  all_goals
    go_enter Tryz.func131, Tryz.ntmps131
    go_wp2
    go_ret2
    exact ⟨rfl, rfl⟩
end
end Go.Proofs.YtkfedihaldpgmaaGreat
