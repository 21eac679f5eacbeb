/-
  Chapter 13: a mover in new memory; a row beside it; some runs (function 'known').
-/
import Derived.Test.YtamaonkepfkgnaaDw13
namespace Go.Proofs.Ytamaonkepfkgnaa
open Go.RowKit
set_option linter.unusedVariables false
set_option linter.unusedSimpArgs false

/-- a mover whose blocks are all new since W0; what was there is as it was -/
structure One (W0 w : World) (x g r : Nat) (O : Nat → Prop) (p : Nat) (d : Int) (v : Value) (S : DS) : Prop where
  dm : Dm w x g r O p d v S
  nw : ∀ k, OwnD x g O v k → W0.heap.size ≤ k
  bl : Below W0.heap.size W0 w
/-- it returns y; the mover is S2 then, and of what was there its own blocks alone have turned -/
def RetO (y : Value) (W0 w : World) (x g r : Nat) (O : Nat → Prop) (p : Nat) (d : Int) (v : Value) (S2 : DS) (e : Ending) (w' : World) : Prop := e = .returned y ∧ ∃ v2, One W0 w' x g r O p d v2 S2 ∧ CD x g O v v2 w w'
/-- a row beside a mover -/
structure Asd (w : World) (x g : Nat) (O : Nat → Prop) (v : Value) (X : Nat) (T : TypeId) (n : Nat) (F : Nat → Value) : Prop where
  row : w.rowIs X T n F
  no : ¬ OwnD x g O v X
/-- bytes beside a mover -/
def Asb (w : World) (x g : Nat) (O : Nat → Prop) (v : Value) (u : Value) (n : Nat) (f : Nat → Int) : Prop := ByAt (fun k => ¬ OwnD x g O v k) w u n f
section
variable {W0 w w' : World} {x g r : Nat} {O : Nat → Prop} {p : Nat} {d : Int} {v v2 : Value} {S S2 : DS}
theorem One.step (h : One W0 w x g r O p d v S) (h2 : Dm w' x g r O p d v2 S2) (c : CD x g O v v2 w w') : One W0 w' x g r O p d v2 S2 := by
  refine ⟨h2, fun k hk => ?_, h.bl.trans (c.fr.below h.bl.size (fun k hk e => by have := h.nw k e; omega))⟩
  rcases c.own k hk with e | e
  · exact h.nw k e
  · exact Nat.le_trans h.bl.size e
theorem One.no (h : One W0 w x g r O p d v S) (f : Fr (fun _ => False) w w') : One W0 w' x g r O p d v S := h.step (h.dm.no f) (CD.of_no f)
theorem One.below (h : One W0 w x g r O p d v S) (b : Below w.heap.size w w') : One W0 w' x g r O p d v S := h.step (h.dm.below b) (CD.of_below b)
theorem One.alloc (h : One W0 w x g r O p d v S) (o : Obj) : One W0 (w.alloc o) x g r O p d v S := h.below ((Below.refl _ _).alloc (Nat.le_refl _) o)
/-- a row beside it has turned -/
theorem One.other {X : Nat} (h : One W0 w x g r O p d v S) (f : Fr (fun k => k = X) w w') (hX : ¬ OwnD x g O v X) (hn : W0.heap.size ≤ X) : One W0 w' x g r O p d v S :=
  ⟨h.dm.fr f (fun k hk e => hX (e ▸ hk)), h.nw, h.bl.trans (f.below h.bl.size (fun k hk e => by omega))⟩
theorem One.new {w1 w2 : World} {C : Nat → Int} (hg : W0.heap.size ≤ g) (hb : Below W0.heap.size W0 w1) (ho : ∀ k, O k → w1.heap.size ≤ k) (hb2 : Below w1.heap.size w1 w2) (hx : w2.heap.size ≤ x) (hD : Dm w x g r O p d (.slice none 0 0) ⟨0, 0, 0, false, false, false, none, 0, C⟩) (hb3 : Below w2.heap.size w2 w) : One W0 w x g r O p d (.slice none 0 0) ⟨0, 0, 0, false, false, false, none, 0, C⟩ := by
  have s1 := hb.size
  have s2 := hb2.size
  refine ⟨hD, ?_, (hb.trans (hb2.mono s1)).trans (hb3.mono (by omega))⟩
  rintro k (rfl | (rfl | e) | e)
  · omega
  · exact hg
  · cases e
  · have := ho k e; omega
theorem Asd.step {X n : Nat} {T : TypeId} {F : Nat → Value} (h : Asd w x g O v X T n F) (c : CD x g O v v2 w w') : Asd w' x g O v2 X T n F := by
  refine ⟨h.row.of_block (c.fr.block _ h.row.lt h.no), fun e => ?_⟩
  rcases c.own _ e with e | e
  · exact h.no e
  · have := h.row.lt; omega
theorem Asd.keep {X n : Nat} {T : TypeId} {F : Nat → Value} {Q : Nat → Prop} (h : Asd w x g O v X T n F) (f : Fr Q w w') (hq : ¬ Q X) : Asd w' x g O v X T n F := ⟨h.row.of_block (f.block _ h.row.lt hq), h.no⟩
theorem Asd.alloc {X n : Nat} {T : TypeId} {F : Nat → Value} (h : Asd w x g O v X T n F) (o : Obj) : Asd (w.alloc o) x g O v X T n F := ⟨h.row.alloc o, h.no⟩
theorem Asb.keep {u : Value} {n : Nat} {f : Nat → Int} {Q : Nat → Prop} (h : Asb w x g O v u n f) (hf : Fr Q w w') (hq : ∀ k, ¬ OwnD x g O v k → k < w.heap.size → ¬ Q k) : Asb w' x g O v u n f := ByAt.fr h hf hq
theorem Asb.step {u : Value} {n : Nat} {f : Nat → Int} (h : Asb w x g O v u n f) (c : CD x g O v v2 w w') : Asb w' x g O v2 u n f := by
  have h2 : ByAt (fun k => ¬ OwnD x g O v k) w' u n f := h.fr c.fr (fun k hk _ => hk)
  rcases h with h | ⟨ad, cp, hv, hc, hq, hi⟩
  · exact .inl h
  · rcases h2 with h2 | ⟨ad2, cp2, hv2, hc2, hq2, hi2⟩
    · exact .inl h2
    · rw [hv] at hv2
      injection hv2 with e1 e2 e3
      injection e1 with e1
      subst e1
      refine .inr ⟨ad, cp2, by rw [hv, e3], hc2, fun hn => ⟨(hq2 hn).1, fun e => ?_⟩, hi2⟩
      rcases c.own _ e with e | e
      · exact (hq hn).2 e
      · have hl := block_lt_of_cell (hi 0 hn).1
        rw [add_block] at hl
        omega
theorem One.by (h : One W0 w x g r O p d v S) {u : Value} {n : Nat} {f : Nat → Int} (hB : ByAt (fun k => w.heap.size ≤ k) w' u n f) : Asb w' x g O v u n f := hB.mono fun k hk e => by have := h.dm.lt k e; omega
theorem One.rw (h : One W0 w x g r O p d v S) {X n : Nat} {T : TypeId} {F : Nat → Value} (hr : w'.rowIs X T n F) (hX : w.heap.size ≤ X) : Asd w' x g O v X T n F := ⟨hr, fun e => by have := h.dm.lt X e; omega⟩
/-- bounds ahead of a call -/
structure Gb (S : DS) : Prop where
  a0 : 0 ≤ S.a ∧ S.a ≤ 1000000
  f0 : 0 ≤ S.f
  f1 : S.f < 4294967296
  t0 : 0 ≤ S.t
  t1 : S.t < 4294967296
  c0 : 0 ≤ S.c
  c1 : S.c < 4294967296
theorem write_to (h : One W0 w x g r O p d v S) (k : Nat) (z u : Int) {b : Bool} (hk : k ≤ 6) (hz : z = (k : Int) * 4) (hb : decide (k < 5) = b) (hS : wrD k u 0 S = S2) (hG : Gb S) (u0 : 0 ≤ u) (u1 : u < 4294967296) (d0 : 0 ≤ d) (d1 : d < 16) :
    Calls Try.prog 15 #[.pointer (some ⟨x, 0, none⟩), .int .u32 z, .int .u32 u, .int .i64 0] w (RetO (.bool b) W0 w x g r O p d v S2) :=
  (dwrite_any k z u 0 h.dm hk hz u0 u1 hG.a0 hG.c0 hG.c1 d0 d1 (by omega) (by omega)).mono fun e w' ⟨he, v2, h2, c⟩ => ⟨by rw [he, hb], v2, hS ▸ h.step h2 c, c⟩
theorem fire_to (h : One W0 w x g r O p d v S) (now : Int) (hS : fiD p S = S2) (hG : Gb S) :
    Calls Try.prog 17 #[.pointer (some ⟨x, 0, none⟩), .int .i64 now] w (RetO (.tuple #[]) W0 w x g r O p d v S2) :=
  (dfire_any now h.dm hG.f0 hG.f1 hG.t0 hG.t1 hG.c0 hG.c1).mono fun e w' ⟨he, v2, h2, c⟩ => ⟨he, v2, hS ▸ h.step h2 c, c⟩
theorem line_to (h : One W0 w x g r O p d v S) {b : Bool} (hb : (S.dn || S.er) = b) :
    Calls Try.prog 19 #[.pointer (some ⟨x, 0, none⟩)] w fun e w' => e = .returned (.bool b) ∧ w = w' :=
  (dline_any h.dm).mono fun e w' ⟨he, hw⟩ => ⟨by rw [he, hb], hw⟩
theorem read_to (h : One W0 w x g r O p d v S) (k : Nat) (z : Int) {y : Int} {b : Bool} (hk : k ≤ 6) (hz : z = (k : Int) * 4) (hb : decide (k < 5) = b) (hx : wordD k S = y) :
    Calls Try.prog 18 #[.pointer (some ⟨x, 0, none⟩), .int .u32 z] w fun e w' => e = .returned (.tuple #[.int .u32 y, .bool b]) ∧ w = w' :=
  (dread_any k z h.dm hk hz).mono fun e w' ⟨he, hw⟩ => ⟨by rw [he, hb, hx], hw⟩
theorem take_yes (h : One W0 w x g r O p d v S) {y s : Int} (now : Int) (hq : S.q = some (y, s)) (hx : y ≤ now) (hS : { S with q := none } = S2) :
    Calls Try.prog 16 #[.pointer (some ⟨g, 0, none⟩), .int .i64 now] w (RetO (.tuple #[.agg #[.int .i64 y, .int .i64 d, .int .i64 s], .bool true]) W0 w x g r O p d v S2) := by
  have hd : duB now S = true := by unfold duB; rw [hq]; exact decide_eq_true hx
  have e1 : tmQ S = y := by unfold tmQ; rw [hq]
  have e2 : sqQ S = s := by unfold sqQ; rw [hq]
  have := dtake_yes h.dm hd
  rw [e1, e2] at this
  exact this.mono fun e w' ⟨he, v2, h2, c⟩ => ⟨he, v2, hS ▸ h.step h2 c, c⟩
theorem take_no (h : One W0 w x g r O p d v S) (now : Int) (hd : S.q = none) :
    Calls Try.prog 16 #[.pointer (some ⟨g, 0, none⟩), .int .i64 now] w (RetO (.tuple #[.agg #[.int .i64 0, .int .i64 0, .int .i64 0], .bool false]) W0 w x g r O p d v S) :=
  (dtake_no h.dm (show duB now S = false by unfold duB; rw [hd])).mono fun e w' ⟨he, v2, h2, c⟩ => ⟨he, v2, h.step h2 c, c⟩
theorem store_to (h : One W0 w x g r O p d v S) (a n u : Int) {b : Bool} (hb : okN p a n = b) (hS : { S with C := aC p S.C a n u } = S2) (h0 : 0 ≤ a) (h1 : a < 4294967296) (n0 : -9223372036854775808 ≤ n) (n1 : n ≤ 9223372036854775807) (u0 : 0 ≤ u) (u1 : u < 4294967296) :
    Calls Try.prog 24 #[.pointer (some ⟨r, 0, none⟩), .int .u32 a, .int .i64 n, .int .u32 u] w (RetO (.bool b) W0 w x g r O p d v S2) :=
  (mstore_any a n u h.dm.mm h0 h1 n0 n1 u0 u1).mono fun e w' ⟨he, hm, hf⟩ => ⟨by rw [he, hb], v, hS ▸ h.step (h.dm.mem hm hf) (CD.of_mem hf), CD.of_mem hf⟩
theorem put_to {Q : Nat → Prop} (h : One W0 w x g r O p d v S) (a : Int) (u : Value) (n : Nat) (f : Nat → Int) {b : Bool} (hv : ByAt Q w u n f) (hb : inB p a n = b) (hS : { S with C := uC p S.C a n f } = S2) (h0 : 0 ≤ a) (h1 : a < 4294967296) (hn : n ≤ 9223372036854775807) :
    Calls Try.prog 12 #[.pointer (some ⟨r, 0, none⟩), .int .u32 a, u] w (RetO (.bool b) W0 w x g r O p d v S2) :=
  (mput_any a u n f h.dm.mm hv h0 h1 hn).mono fun e w' ⟨he, hm, hf⟩ => ⟨by rw [he, hb], v, hS ▸ h.step (h.dm.mem hm hf) (CD.of_mem hf), CD.of_mem hf⟩
end
def S00 (C : Nat → Int) : DS := ⟨0, 0, 0, false, false, false, none, 0, C⟩
def KC : Nat → Int := aC 1 Z0 8 4 16909060
def KE : Nat → Int := putC KC 100 4 (fun i => KC (8 + i))

set_option maxHeartbeats 4000000 in
set_option maxRecDepth 100000 in
theorem known_any (w : World) : Calls Try.prog 8 #[] w (RetB (.bool true) w) := by
  have H0 : Hid ({ S00 Z0 with C := aC 1 (S00 Z0).C 8 4 16909060 } = S00 KC) := Lib.hid rfl
  have H1 : Hid (wrD 0 8 0 (S00 KC) = ⟨8, 0, 0, false, false, false, none, 0, KC⟩) := Lib.hid rfl
  have H2 : Hid (wrD 1 100 0 ⟨8, 0, 0, false, false, false, none, 0, KC⟩ = ⟨8, 100, 0, false, false, false, none, 0, KC⟩) := Lib.hid rfl
  have H3 : Hid (wrD 2 4 0 ⟨8, 100, 0, false, false, false, none, 0, KC⟩ = ⟨8, 100, 4, false, false, false, none, 0, KC⟩) := Lib.hid rfl
  have H4 : Hid (wrD 3 1 0 ⟨8, 100, 4, false, false, false, none, 0, KC⟩ = ⟨8, 100, 4, true, false, false, some (2, 0), 1, KC⟩) := Lib.hid rfl
  have H5 : Hid (fiD 1 ⟨8, 100, 4, true, false, false, none, 1, KC⟩ = ⟨8, 100, 4, false, true, false, none, 1, KE⟩) := Lib.hid rfl
  have H6 : Hid (loadV 1 KE 100 4 = .tuple #[.int .u32 16909060, .bool true]) := Lib.hid rfl
  have G0 : Gb (S00 KC) := ⟨by decide, by decide, by decide, by decide, by decide, by decide, by decide⟩
  have G1 : Gb ⟨8, 0, 0, false, false, false, none, 0, KC⟩ := ⟨by decide, by decide, by decide, by decide, by decide, by decide, by decide⟩
  have G2 : Gb ⟨8, 100, 0, false, false, false, none, 0, KC⟩ := ⟨by decide, by decide, by decide, by decide, by decide, by decide, by decide⟩
  have G3 : Gb ⟨8, 100, 4, false, false, false, none, 0, KC⟩ := ⟨by decide, by decide, by decide, by decide, by decide, by decide, by decide⟩
  have G5 : Gb ⟨8, 100, 4, true, false, false, none, 1, KC⟩ := ⟨by decide, by decide, by decide, by decide, by decide, by decide, by decide⟩
  go_enter Try.func8, Try.ntmps8
  go_wp2_with fail
  refine (wnew_any w).mono ?_
  rintro e w1 ⟨g, hg, rfl, hw, hb⟩
  go_wp2_with fail
  with_reducible refine (mnew_any 1 1 rfl w1).mono ?_
  rintro e w2 ⟨r, O, rfl, ho, hm, hb2⟩
  have hw2 := hw.below hb2
  have hog : ¬ O g := fun e => by have := ho g e; have := hw.lt g (.inl rfl); omega
  go_wp2_with fail
  with_reducible refine (dnew_any 4 hw2 hm hog).mono ?_
  rintro e w3 ⟨x, hx, rfl, hD, hb3⟩
  have o3 : One w w3 x g r O 1 4 (.slice none 0 0) (S00 Z0) := One.new hg hb ho hb2 hx hD hb3
  clear hg hw hb ho hm hb2 hw2 hog hx hD hb3
  go_wp2_with fail
  with_reducible refine (dnew_nil 4 w3 (some ⟨g, 0, none⟩)).mono ?_
  rintro e w4 ⟨rfl, rfl⟩
  go_wp2_with fail
  with_reducible refine (store_to o3 8 4 16909060 rfl H0.out (by omega) (by omega) (by omega) (by omega) (by omega) (by omega)).mono ?_
  rintro e w4 ⟨rfl, v4, o4, _⟩
  clear o3
  go_wp2_with fail
  with_reducible refine (write_to o4 0 0 8 (by omega) (by omega) rfl H1.out G0 (by omega) (by omega) (by omega) (by omega)).mono ?_
  rintro e w5 ⟨rfl, v5, o5, _⟩
  clear o4
  go_wp2_with fail
  with_reducible refine (write_to o5 1 4 100 (by omega) (by omega) rfl H2.out G1 (by omega) (by omega) (by omega) (by omega)).mono ?_
  rintro e w6 ⟨rfl, v6, o6, _⟩
  clear o5
  go_wp2_with fail
  with_reducible refine (write_to o6 2 8 4 (by omega) (by omega) rfl H3.out G2 (by omega) (by omega) (by omega) (by omega)).mono ?_
  rintro e w7 ⟨rfl, v7, o7, _⟩
  clear o6
  go_wp2_with fail
  with_reducible refine (write_to o7 3 12 1 (by omega) (by omega) rfl H4.out G3 (by omega) (by omega) (by omega) (by omega)).mono ?_
  rintro e w8 ⟨rfl, v8, o8, _⟩
  clear o7
  go_wp2_with fail
  with_reducible refine (take_yes o8 2 rfl (by omega) rfl).mono ?_
  rintro e w9 ⟨rfl, v9, o9, _⟩
  have o10 := o9.alloc (.cells #[.int .i64 2, .int .i64 4, .int .i64 0] 45)
  clear o8 o9
  go_wp2_with fail
  with_reducible refine (fire_to o10 2 H5.out G5).mono ?_
  rintro e w11 ⟨rfl, v11, o11, _⟩
  clear o10
  go_wp2_with fail
  with_reducible refine (mload_any 100 4 o11.dm.mm (by omega) (by omega) (by omega) (by omega)).mono ?_
  rintro e w12 ⟨rfl, rfl⟩
  rw [H6.out]
  go_wp2_with fail
  with_reducible refine (read_to o11 4 16 (by omega) (by omega) rfl (y := 2) rfl).mono ?_
  rintro e w12 ⟨rfl, rfl⟩
  go_wp2_with fail
  with_reducible refine (line_to o11 (b := true) rfl).mono ?_
  rintro e w12 ⟨rfl, rfl⟩
  have hbl := o11.bl
  go_wp2
  go_ret
  exact ⟨rfl, hbl⟩
end Go.Proofs.Ytamaonkepfkgnaa
