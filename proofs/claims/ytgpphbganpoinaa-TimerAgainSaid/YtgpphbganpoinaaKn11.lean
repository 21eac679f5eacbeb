/-
  Chapter 11: one timer in new memory; some runs (function 'known'); the walks of TimerAgain and TimerStops.
-/
import Derived.Test.YtgpphbganpoinaaTw11
namespace Go.Proofs.Ytgpphbganpoinaa
open Go.RowKit
set_option linter.unusedVariables false
set_option linter.unusedSimpArgs false

/-- a timer whose blocks are all new since W0; what was there is as it was -/
structure One (W0 w : World) (t g : Nat) (d : Int) (v : Value) (S : TS) : Prop where
  ti : Ti w t g d v S
  nw : ∀ k, OwnT t g v k → W0.heap.size ≤ k
  bl : Below W0.heap.size W0 w
/-- it returns x; the timer is S2 then -/
def RetO (x : Value) (W0 : World) (t g : Nat) (d : Int) (S2 : TS) (e : Ending) (w' : World) : Prop := e = .returned x ∧ ∃ v2, One W0 w' t g d v2 S2
section
variable {W0 w w' : World} {t g : Nat} {d : Int} {v v2 : Value} {S S2 : TS}
theorem One.step (h : One W0 w t g d v S) (h2 : Ti w' t g d v2 S2) (c : CT t g v v2 w w') : One W0 w' t g d v2 S2 := by
  refine ⟨h2, ?_, h.bl.trans (c.fr.below h.bl.size (fun k hk e => by have := h.nw k e; omega))⟩
  rintro k (e | e | e)
  · exact h.nw k (.inl e)
  · exact h.nw k (.inr (.inl e))
  · rcases c.nw k e with e | e
    · exact h.nw k (.inr (.inr e))
    · exact Nat.le_trans h.bl.size e
theorem One.below (h : One W0 w t g d v S) (b : Below w.heap.size w w') : One W0 w' t g d v S := h.step (h.ti.below b) (CT.of_below b)
theorem One.alloc (h : One W0 w t g d v S) (o : Obj) : One W0 (w.alloc o) t g d v S := h.below ((Below.refl _ _).alloc (Nat.le_refl _) o)
theorem One.new {w1 : World} (hg : W0.heap.size ≤ g) (hb : Below W0.heap.size W0 w1) (ht : w1.heap.size ≤ t) (hT : Ti w t g d (.slice none 0 0) S) (hb2 : Below w1.heap.size w1 w) : One W0 w t g d (.slice none 0 0) S := by
  have s1 := hb.size
  refine ⟨hT, ?_, hb.trans (hb2.mono s1)⟩
  rintro k (rfl | rfl | e)
  · omega
  · exact hg
  · cases e
theorem write_to (h : One W0 w t g d v S) (k : Nat) (z x now : Int) {b : Bool} (hk : k ≤ 4) (hz : z = (k : Int) * 4) (hb : decide (k < 3) = b) (hS : wrT k x now S = S2) (x0 : 0 ≤ x) (x1 : x < 4294967296) (hG : Gd 1000 S) (d0 : 0 ≤ d) (d1 : d < 16) (n0 : 0 ≤ now) (n1 : now ≤ 4611686018427387904) :
    Calls Try.prog 11 #[.pointer (some ⟨t, 0, none⟩), .int .u32 z, .int .u32 x, .int .i64 now] w (RetO (.bool b) W0 t g d S2) :=
  (write_any k z x now h.ti hk hz x0 x1 ⟨hG.a0, by have := hG.a1; omega⟩ d0 d1 n0 n1 hG.p0 hG.p1).mono fun e w' ⟨he, v2, h2, c⟩ => ⟨by rw [he, hb], v2, hS ▸ h.step h2 c⟩
theorem fire_to (h : One W0 w t g d v S) (now : Int) (hS : fiT now S = S2) (hG : Gd 1000 S) (d0 : 0 ≤ d) (d1 : d < 16) (n0 : 0 ≤ now) (n1 : now ≤ 4611686018427387904) :
    Calls Try.prog 14 #[.pointer (some ⟨t, 0, none⟩), .int .i64 now] w (RetO (.tuple #[]) W0 t g d S2) :=
  (fire_any now h.ti ⟨hG.a0, by have := hG.a1; omega⟩ d0 d1 n0 n1 hG.p0 hG.p1).mono fun e w' ⟨he, v2, h2, c⟩ => ⟨he, v2, hS ▸ h.step h2 c⟩
theorem line_to (h : One W0 w t g d v S) {b : Bool} (hb : S.s = b) :
    Calls Try.prog 15 #[.pointer (some ⟨t, 0, none⟩)] w fun e w' => e = .returned (.bool b) ∧ w = w' :=
  (line_any h.ti).mono fun e w' ⟨he, hw⟩ => ⟨by rw [he, hb], hw⟩
theorem read_to (h : One W0 w t g d v S) (k : Nat) (z : Int) {x : Int} {b : Bool} (hk : k ≤ 4) (hz : z = (k : Int) * 4) (hb : decide (k < 3) = b) (hx : wordT k S = x) :
    Calls Try.prog 16 #[.pointer (some ⟨t, 0, none⟩), .int .u32 z] w fun e w' => e = .returned (.tuple #[.int .u32 x, .bool b]) ∧ w = w' :=
  (read_any k z h.ti hk hz).mono fun e w' ⟨he, hw⟩ => ⟨by rw [he, hb, hx], hw⟩
theorem take_yes (h : One W0 w t g d v S) {x s : Int} (now : Int) (hq : S.q = some (x, s)) (hx : x ≤ now) (hS : { S with q := none } = S2) :
    Calls Try.prog 13 #[.pointer (some ⟨g, 0, none⟩), .int .i64 now] w (RetO (.tuple #[.agg #[.int .i64 x, .int .i64 d, .int .i64 s], .bool true]) W0 t g d S2) := by
  have hd : duB now S = true := by unfold duB; rw [hq]; exact decide_eq_true hx
  have e1 : tmQ S = x := by unfold tmQ; rw [hq]
  have e2 : sqQ S = s := by unfold sqQ; rw [hq]
  have := ttake_yes h.ti hd
  rw [e1, e2] at this
  exact this.mono fun e w' ⟨he, v2, h2, c⟩ => ⟨he, v2, hS ▸ h.step h2 c⟩
theorem take_no (h : One W0 w t g d v S) (now : Int) (hd : duB now S = false) :
    Calls Try.prog 13 #[.pointer (some ⟨g, 0, none⟩), .int .i64 now] w (RetO (.tuple #[.agg #[.int .i64 0, .int .i64 0, .int .i64 0], .bool false]) W0 t g d S) :=
  (ttake_no h.ti hd).mono fun e w' ⟨he, v2, h2, c⟩ => ⟨he, v2, h.step h2 c⟩
end
theorem dv1 : Dv 1 3 := Or.inl ⟨rfl, rfl⟩
theorem dv2 : Dv 2 6 := Or.inr ⟨rfl, rfl⟩
theorem gd0 : Gd 1000 ⟨false, false, false, 0, none, 0⟩ := ⟨by decide, by decide, by decide, by decide, fun _ _ e => by cases e⟩
theorem wr_p (p : Int) : wrT 1 p 0 ⟨false, false, false, 0, none, 0⟩ = ⟨false, false, false, p, none, 0⟩ := rfl

set_option maxHeartbeats 4000000 in
set_option maxRecDepth 100000 in
theorem known_any (w : World) : Calls Try.prog 8 #[] w (RetB (.bool true) w) := by
  have H1 : Hid (wrT 1 5 10 ⟨false, false, false, 0, none, 0⟩ = ⟨false, false, false, 5, none, 0⟩) := Lib.hid rfl
  have H2 : Hid (wrT 0 1 10 ⟨false, false, false, 5, none, 0⟩ = ⟨true, false, false, 5, some (15, 0), 1⟩) := Lib.hid rfl
  have H3 : Hid (fiT 15 ⟨true, false, false, 5, some (15, 0), 1⟩ = ⟨false, false, true, 5, some (15, 0), 1⟩) := Lib.hid rfl
  have G1 : Gd 1000 ⟨false, false, false, 5, none, 0⟩ := ⟨by decide, by decide, by decide, by decide, fun _ _ e => by cases e⟩
  have G2 : Gd 1000 ⟨true, false, false, 5, some (15, 0), 1⟩ := ⟨by decide, by decide, by decide, by decide, fun _ _ e => by cases e; decide⟩
  go_enter Try.func8, Try.ntmps8
  go_wp2_with fail
  refine (wnew_any w).mono ?_
  rintro e w1 ⟨g, hg, rfl, hw, hb⟩
  go_wp2_with fail
  with_reducible refine (tnew_any 1 hw).mono ?_
  rintro e w2 ⟨t, ht, rfl, hT, hb2⟩
  have o2 := One.new hg hb ht hT hb2
  clear hg hw hb ht hT hb2
  go_wp2_with fail
  with_reducible refine (write_to o2 1 4 5 10 (by omega) (by omega) rfl H1.out (by omega) (by omega) gd0 (by omega) (by omega) (by omega) (by omega)).mono ?_
  rintro e w3 ⟨rfl, v3, o3⟩
  clear o2
  go_wp2_with fail
  with_reducible refine (write_to o3 0 0 1 10 (by omega) (by omega) rfl H2.out (by omega) (by omega) G1 (by omega) (by omega) (by omega) (by omega)).mono ?_
  rintro e w4 ⟨rfl, v4, o4⟩
  clear o3
  go_wp2_with fail
  with_reducible refine (at_any 1 o4.ti.wh (by decide)).mono ?_
  rintro e w5 ⟨rfl, hb5⟩
  have o5 := o4.below hb5
  have E1 : atV 1 (qL 1 (some ((15 : Int), (0 : Int)))) = 15 := rfl
  have E2 : cancB 1 (qL 1 (some ((15 : Int), (0 : Int)))) = true := rfl
  rw [E1, E2]
  clear o4 E1 E2
  go_wp2_with fail
  with_reducible refine (read_to o5 3 12 (by omega) (by omega) rfl rfl).mono ?_
  rintro e w6 ⟨rfl, rfl⟩
  go_wp2_with fail
  with_reducible refine (fire_to o5 15 H3.out G2 (by omega) (by omega) (by omega) (by omega)).mono ?_
  rintro e w6 ⟨rfl, v6, o6⟩
  clear o5
  go_wp2_with fail
  with_reducible refine (line_to o6 rfl).mono ?_
  rintro e w7 ⟨rfl, rfl⟩
  go_wp2_with fail
  with_reducible refine (tnew_nil 1 w6).mono ?_
  rintro e w7 ⟨rfl, rfl⟩
  go_wp2
  go_ret
  exact ⟨rfl, o6.bl⟩
end Go.Proofs.Ytgpphbganpoinaa
