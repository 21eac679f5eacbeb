/-
  Chapter 9: one wheel in new memory; some runs (function 'known'); the walk of WheelAnew.
-/
import Derived.Test.YthogmllomlcceaaWa9
namespace Go.Proofs.Ythogmllomlcceaa
open Go.RowKit
set_option linter.unusedVariables false
set_option linter.unusedSimpArgs false

/-- a wheel whose blocks are all new since W0; what was there is as it was -/
structure One (W0 w : World) (g : Nat) (v : Value) (L : List Ev) (a : Int) : Prop where
  wh : Wh 50 w g v L a
  nw : ∀ k, Own g v k → W0.heap.size ≤ k
  bl : Below W0.heap.size W0 w
section
variable {W0 w w' : World} {g : Nat} {v v2 : Value} {L L2 : List Ev} {a a2 : Int}
theorem One.step (h : One W0 w g v L a) (hw : Wh 50 w' g v2 L2 a2) (hch : Ch g v v2 w w') : One W0 w' g v2 L2 a2 := by
  refine ⟨hw, ?_, h.bl.trans (hch.fr.below h.bl.size (fun k hk e => by have := h.nw k e; omega))⟩
  rintro k (e | e)
  · exact h.nw k (.inl e)
  · rcases hch.nw k e with e | e
    · exact h.nw k (.inr e)
    · exact Nat.le_trans h.bl.size e
theorem One.new (hg : W0.heap.size ≤ g) (hw : Wh 50 w g (.slice none 0 0) [] 0) (hb : Below W0.heap.size W0 w) : One W0 w g (.slice none 0 0) [] 0 :=
  ⟨hw, fun k hk => hk.elim (fun e => e ▸ hg) (fun e => by cases e), hb⟩
theorem One.below (h : One W0 w g v L a) (b : Below w.heap.size w w') : One W0 w' g v L a := h.step (h.wh.below b) (Ch.of_below b)
theorem One.alloc (h : One W0 w g v L a) (o : Obj) : One W0 (w.alloc o) g v L a := h.below ((Below.refl _ _).alloc (Nat.le_refl _) o)
/-- a box of an event beside a wheel -/
structure Bx (w : World) (X g : Nat) (v : Value) (x : Ev) : Prop where
  row : w.rowIs X 33 3 (three x)
  no : ¬ Own g v X
theorem Bx.new (h : Wh 50 w g v L a) (x : Ev) : Bx (w.alloc (.cells #[.int .i64 x.t, .int .i64 x.d, .int .i64 x.s] 33)) w.heap.size g v x :=
  ⟨ev_row w x, fun e => Nat.lt_irrefl _ (h.lt _ e)⟩
theorem Bx.step {X : Nat} {x : Ev} (h : Bx w X g v x) (hch : Ch g v v2 w w') : Bx w' X g v2 x := by
  refine ⟨h.row.of_block (hch.fr.block _ h.row.lt h.no), ?_⟩
  rintro (e | e)
  · exact h.no (.inl e)
  · rcases hch.nw _ e with e | e
    · exact h.no (.inr e)
    · have := h.row.lt; omega
theorem arm_to {d t : Int} (h : Wh 50 w g v L a) (hk : okB d t = true) (hL : armF d t a L = L2) (hl : L.length ≤ 999999) (ha : 0 ≤ a ∧ a ≤ 1000000) :
    Calls Try.prog 10 #[.pointer (some ⟨g, 0, none⟩), .int .i64 d, .int .i64 t] w (RetW 50 (.bool true) w g v L2 (a + 1)) := by
  have := arm_any d t h hl ha
  unfold armL armA at this
  rw [hk, if_pos rfl, if_pos rfl, hL] at this
  exact this
theorem take_to {now : Int} {x : Ev} (h : Wh 50 w g v (x :: L) a) (ht : x.t ≤ now) (hl : (x :: L).length ≤ 1000000) :
    Calls Try.prog 11 #[.pointer (some ⟨g, 0, none⟩), .int .i64 now] w (RetW 50 (.tuple #[.agg #[.int .i64 x.t, .int .i64 x.d, .int .i64 x.s], .bool true]) w g v L a) := by
  have := take_any now h hl
  have hd : dueB now (x :: L) = true := by simp [dueB, ht]
  unfold takeV takeL takeE at this
  rw [hd] at this
  exact this
theorem take_none {now : Int} (h : Wh 50 w g v L a) (ht : dueB now L = false) (hl : L.length ≤ 1000000) :
    Calls Try.prog 11 #[.pointer (some ⟨g, 0, none⟩), .int .i64 now] w (RetW 50 (.tuple #[.agg #[.int .i64 0, .int .i64 0, .int .i64 0], .bool false]) w g v L a) := by
  have := take_any now h hl
  unfold takeV takeL takeE at this
  rw [ht] at this
  exact this
theorem all_len (h : Wh 50 w g v L a) (hl : L.length ≤ 1000000) :
    Calls Try.prog 12 #[.pointer (some ⟨g, 0, none⟩)] w fun e w' => ∃ A c, e = .returned (.slice A L.length c) ∧ Below w.heap.size w w' :=
  (all_any h hl).mono fun e w' ⟨u, he, hO, hB, _⟩ => by
    obtain ⟨A, c, rfl, _⟩ := hO.form
    exact ⟨A, c, he, hB⟩
end

set_option maxHeartbeats 4000000 in
set_option maxRecDepth 100000 in
theorem known_any (w : World) : Calls Try.prog 8 #[] w (RetB (.bool true) w) := by
  have l1 : armF 1 5 0 [] = [⟨5, 1, 0⟩] := rfl
  have l2 : armF 2 5 1 [⟨5, 1, 0⟩] = [⟨5, 1, 0⟩, ⟨5, 2, 1⟩] := rfl
  have H1 := Lib.hid l1
  have H2 := Lib.hid l2
  clear l1 l2
  go_enter Try.func8, Try.ntmps8
  go_wp2_with fail
  refine (wnew_any w).mono ?_
  rintro e w1 ⟨g, hg, rfl, hw, hb⟩
  have o1 : One w w1 g _ [] 0 := One.new hg hw hb
  clear hw hb
  go_wp2_with fail
  refine (arm_to o1.wh rfl H1.out (by simp) ⟨by omega, by omega⟩).mono ?_
  rintro e w2 ⟨rfl, v2, hw, hch⟩
  have o2 := o1.step hw hch
  clear hw hch o1
  go_wp2_with fail
  refine (arm_to o2.wh rfl H2.out (by simp) ⟨by omega, by omega⟩).mono ?_
  rintro e w3 ⟨rfl, v3, hw, hch⟩
  have o3 := o2.step hw hch
  clear hw hch o2
  go_wp2_with fail
  refine (arm_no 99 5 o3.wh (by omega)).mono ?_
  rintro e w4 ⟨rfl, v4, hw, hch⟩
  have o4 := o3.step hw hch
  clear hw hch o3
  go_wp2_with fail
  refine (take_none o4.wh rfl (by simp)).mono ?_
  rintro e w5 ⟨rfl, v5, hw, hch⟩
  have o5 := (o4.step hw hch).alloc (.cells #[.int .i64 0, .int .i64 0, .int .i64 0] 33)
  clear hw hch o4
  go_wp2_with fail
  refine (take_to o5.wh (by simp) (by simp)).mono ?_
  rintro e w6 ⟨rfl, v6, hw, hch⟩
  have o6 := o5.step hw hch
  have o7 := o6.alloc (.cells #[.int .i64 5, .int .i64 1, .int .i64 0] 33)
  clear hw hch o5
  go_wp2_with fail
  refine (all_len o7.wh (by simp)).mono ?_
  rintro e w8 ⟨A, c, rfl, hb⟩
  go_wp2
  go_ret
  exact ⟨rfl, (o7.below hb).bl⟩

theorem anew_L (x y : Int) : armF 1 y 2 (armF 2 y 1 [⟨x, 1, 0⟩]) = [⟨y, 2, 1⟩, ⟨y, 1, 2⟩] ∧ (armF 2 y 1 [⟨x, 1, 0⟩]).length ≤ 2 := by
  by_cases h : y < x
  · have e : armF 2 y 1 [⟨x, 1, 0⟩] = [⟨y, 2, 1⟩, ⟨x, 1, 0⟩] := by simp [armF, delF, ixD, ixA, insF, List.findIdx, List.findIdx.go, h]
    rw [e]
    exact ⟨by simp [armF, delF, ixD, ixA, insF, List.findIdx, List.findIdx.go], by simp⟩
  · have e : armF 2 y 1 [⟨x, 1, 0⟩] = [⟨x, 1, 0⟩, ⟨y, 2, 1⟩] := by simp [armF, delF, ixD, ixA, insF, List.findIdx, List.findIdx.go, h]
    rw [e]
    exact ⟨by simp [armF, delF, ixD, ixA, insF, List.findIdx, List.findIdx.go], by simp⟩
theorem cancel_to {w : World} {g : Nat} {v : Value} {L L2 : List Ev} {a d : Int} {c : Bool} (h : Wh 50 w g v L a) (hc : cancB d L = c) (hL : delF d L = L2) (hl : L.length ≤ 1000000) :
    Calls Try.prog 13 #[.pointer (some ⟨g, 0, none⟩), .int .i64 d] w (RetW 50 (.bool c) w g v L2 a) := by
  have := cancel_any d h hl
  rw [hc, hL] at this
  exact this
theorem tmod50 (n : Int) : -50 < n.tmod 50 ∧ n.tmod 50 < 50 := by
  by_cases h : 0 ≤ n
  · rw [Int.tmod_eq_emod_of_nonneg h]; omega
  · have e : n.tmod 50 = -((-n) % 50) := by rw [← Int.tmod_eq_emod_of_nonneg (by omega), Int.neg_tmod]; omega
    omega

set_option maxHeartbeats 4000000 in
set_option maxRecDepth 100000 in
theorem anew_walk (a b : Int) (cancel : Bool) (w : World) (a0 : -9223372036854775808 ≤ a) (a1 : a ≤ 9223372036854775807) (b0 : -9223372036854775808 ≤ b) (b1 : b ≤ 9223372036854775807) :
    Calls Try.prog 6 #[.int .i64 a, .int .i64 b, .bool cancel] w (RetB (.bool true) w) := by
  obtain ⟨p1, p2⟩ := tmod50 a
  obtain ⟨q1, q2⟩ := tmod50 b
  go_enter Try.func6, Try.ntmps6
  go_wp2_with fail
  refine (wnew_any w).mono ?_
  rintro e w1 ⟨g, hg, rfl, hw, hb⟩
  have o1 : One w w1 g _ [] 0 := One.new hg hw hb
  clear hw hb
  go_wp2_with fail
  have ex : (a.tmod 50 + 50) % 50 = a.tmod 50 % 50 := by omega
  have ey : (b.tmod 50 + 50) % 50 = b.tmod 50 % 50 := by omega
  obtain ⟨x, HX⟩ : ∃ x, Hid (a.tmod 50 % 50 = x) := ⟨_, rfl⟩
  obtain ⟨y, HY⟩ : ∃ y, Hid (b.tmod 50 % 50 = y) := ⟨_, rfl⟩
  have x0 : 0 ≤ x := by rw [← HX.out]; omega
  have y0 : 0 ≤ y := by rw [← HY.out]; omega
  have y1 : y ≤ 60 := by rw [← HY.out]; omega
  simp only [ex, ey, HX.out, HY.out]
  clear ex ey HX HY p1 p2 q1 q2
  have H1 : Hid (armF 1 x 0 [] = [⟨x, 1, 0⟩]) := rfl
  obtain ⟨M, HM⟩ : ∃ M, Hid (armF 2 y 1 [⟨x, 1, 0⟩] = M) := ⟨_, rfl⟩
  have H3 := Lib.hid (anew_L x y)
  rw [HM.out] at H3
  have k1 : okB 1 x = true := by simp [okB, x0]
  have k2 : okB 2 y = true := by simp [okB, y0]
  have k3 : okB 1 y = true := by simp [okB, y0]
  have K1 := Lib.hid k1
  have K2 := Lib.hid k2
  have K3 := Lib.hid k3
  clear k1 k2 k3
  refine (arm_to o1.wh K1.out H1.out (by simp) ⟨by omega, by omega⟩).mono ?_
  rintro e w2 ⟨rfl, v2, hw, hch⟩
  have o2 := o1.step hw hch
  clear hw hch o1
  go_wp2_with fail
  refine (arm_to o2.wh K2.out HM.out (by simp) ⟨by omega, by omega⟩).mono ?_
  rintro e w3 ⟨rfl, v3, hw, hch⟩
  have o3 := o2.step hw hch
  clear hw hch o2
  go_wp2_with fail
  refine (arm_to o3.wh K3.out H3.out.1 (by have := H3.out.2; omega) ⟨by omega, by omega⟩).mono ?_
  rintro e w4 ⟨rfl, v4, hw, hch⟩
  have o4 := o3.step hw hch
  clear hw hch o3 H1 HM H3 K1 K2 K3
  cases cancel
  · go_wp2_with fail
    refine (take_to o4.wh y1 (by simp)).mono ?_
    rintro e w5 ⟨rfl, v5, hw, hch⟩
    have o5 := (o4.step hw hch)
    have o6 := o5.alloc (.cells #[.int .i64 y, .int .i64 2, .int .i64 1] 33)
    clear hw hch o4
    go_wp2_with fail
    refine (take_to o6.wh y1 (by simp)).mono ?_
    rintro e w7 ⟨rfl, v7, hw, hch⟩
    have o7 := (o6.step hw hch)
    have o8 := o7.alloc (.cells #[.int .i64 y, .int .i64 1, .int .i64 2] 33)
    clear hw hch o5 o6
    go_wp2_with fail
    refine (all_len o8.wh (by simp)).mono ?_
    rintro e w9 ⟨A, c, rfl, hb⟩
    have o9 := o8.below hb
    go_wp2_with fail
    refine (known_any w9).mono ?_
    rintro e w10 ⟨rfl, hb10⟩
    go_wp2
    go_ret
    exact ⟨rfl, (o9.below hb10).bl⟩
  · go_wp2_with fail
    refine (cancel_to (L2 := [⟨y, 2, 1⟩]) (c := true) o4.wh rfl rfl (by simp)).mono ?_
    rintro e w5 ⟨rfl, v5, hw, hch⟩
    have o5 := (o4.step hw hch)
    clear hw hch o4
    go_wp2_with fail
    refine (cancel_to (L2 := [⟨y, 2, 1⟩]) (c := false) o5.wh rfl rfl (by simp)).mono ?_
    rintro e w6 ⟨rfl, v6, hw, hch⟩
    have o6 := (o5.step hw hch)
    clear hw hch o5
    go_wp2_with fail
    refine (take_to o6.wh y1 (by simp)).mono ?_
    rintro e w7 ⟨rfl, v7, hw, hch⟩
    have o7 := (o6.step hw hch).alloc (.cells #[.int .i64 y, .int .i64 2, .int .i64 1] 33)
    clear hw hch o6
    go_wp2_with fail
    refine (take_none o7.wh rfl (by simp)).mono ?_
    rintro e w8 ⟨rfl, v8, hw, hch⟩
    have o8 := (o7.step hw hch).alloc (.cells #[.int .i64 0, .int .i64 0, .int .i64 0] 33)
    clear hw hch o7
    go_wp2_with fail
    refine (all_len o8.wh (by simp)).mono ?_
    rintro e w9 ⟨A, c, rfl, hb⟩
    have o9 := o8.below hb
    go_wp2_with fail
    refine (known_any w9).mono ?_
    rintro e w10 ⟨rfl, hb10⟩
    go_wp2
    go_ret
    exact ⟨rfl, (o9.below hb10).bl⟩
end Go.Proofs.Ythogmllomlcceaa
