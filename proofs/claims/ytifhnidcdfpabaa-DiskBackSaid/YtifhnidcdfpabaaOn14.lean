/-
  Chapter 14: a disk in new memory; a row beside it; some runs (function 'known').
-/
import Derived.Test.YtifhnidcdfpabaaWi14
import Derived.Lib.SlBytesConst
namespace Go.Proofs.Ytifhnidcdfpabaa
open Go.RowKit
set_option linter.unusedVariables false
set_option linter.unusedSimpArgs false

/-- a disk whose blocks are all new since W0; what was there is as it was -/
structure One (W0 w : World) (x g r y : Nat) (O : Nat → Prop) (p n : Nat) (d : Int) (v : Value) (S : DS) : Prop where
  dm : Dk w x g r y O p n d v S
  nw : ∀ k, OwnD x g O v k → W0.heap.size ≤ k
  bl : Below W0.heap.size W0 w
/-- it returns b; the disk is S2 then, and of what was there its own blocks alone have turned -/
def RetO (b : Value) (W0 w : World) (x g r y : Nat) (O : Nat → Prop) (p n : Nat) (d : Int) (v : Value) (S2 : DS) (e : Ending) (w' : World) : Prop := e = .returned b ∧ ∃ v2, One W0 w' x g r y O p n d v2 S2 ∧ CD x g O v v2 w w'
/-- a row beside a mover -/
structure Asd (w : World) (x g : Nat) (O : Nat → Prop) (v : Value) (X : Nat) (T : TypeId) (n : Nat) (F : Nat → Value) : Prop where
  row : w.rowIs X T n F
  no : ¬ OwnD x g O v X
/-- bytes beside a mover -/
def Asb (w : World) (x g : Nat) (O : Nat → Prop) (v : Value) (u : Value) (n : Nat) (f : Nat → Int) : Prop := ByAt (fun k => ¬ OwnD x g O v k) w u n f
section
variable {W0 w w' : World} {x g r y : Nat} {O : Nat → Prop} {p n : Nat} {d : Int} {v v2 : Value} {S S2 : DS}
theorem One.step (h : One W0 w x g r y O p n d v S) (h2 : Dk w' x g r y O p n d v2 S2) (c : CD x g O v v2 w w') : One W0 w' x g r y O p n d v2 S2 := by
  refine ⟨h2, fun k hk => ?_, h.bl.trans (c.fr.below h.bl.size (fun k hk e => by have := h.nw k e; omega))⟩
  rcases c.own k hk with e | e
  · exact h.nw k e
  · exact Nat.le_trans h.bl.size e
theorem One.no (h : One W0 w x g r y O p n d v S) (f : Fr (fun _ => False) w w') : One W0 w' x g r y O p n d v S := h.step (h.dm.no f) (CD.of_no f)
theorem One.below (h : One W0 w x g r y O p n d v S) (b : Below w.heap.size w w') : One W0 w' x g r y O p n d v S := h.step (h.dm.below b) (CD.of_below b)
theorem One.alloc (h : One W0 w x g r y O p n d v S) (o : Obj) : One W0 (w.alloc o) x g r y O p n d v S := h.below ((Below.refl _ _).alloc (Nat.le_refl _) o)
/-- a row beside it has turned -/
theorem One.other {X : Nat} (h : One W0 w x g r y O p n d v S) (f : Fr (fun k => k = X) w w') (hX : ¬ OwnD x g O v X) (hn : W0.heap.size ≤ X) : One W0 w' x g r y O p n d v S :=
  ⟨h.dm.fr f (fun k hk e => hX (e ▸ hk)), h.nw, h.bl.trans (f.below h.bl.size (fun k hk e => by omega))⟩
theorem One.new {w1 w2 : World} (hg : W0.heap.size ≤ g) (hb : Below W0.heap.size W0 w1) (ho : ∀ k, O k → w1.heap.size ≤ k) (hb2 : Below w1.heap.size w1 w2) (hx : w2.heap.size ≤ x) {C D : Nat → Int} (hD : Dk w x g r y O p n d (.slice none 0 0) (S00 C D)) (hb3 : Below w2.heap.size w2 w) : One W0 w x g r y O p n d (.slice none 0 0) (S00 C D) := by
  have s1 := hb.size
  have s2 := hb2.size
  refine ⟨hD, ?_, (hb.trans (hb2.mono s1)).trans (hb3.mono (by omega))⟩
  rintro k (rfl | (rfl | e) | e)
  · omega
  · exact hg
  · cases e
  · have := ho k e; omega
theorem Asd.step {X N : Nat} {T : TypeId} {F : Nat → Value} (h : Asd w x g O v X T N F) (c : CD x g O v v2 w w') : Asd w' x g O v2 X T N F := by
  refine ⟨h.row.of_block (c.fr.block _ h.row.lt h.no), fun e => ?_⟩
  rcases c.own _ e with e | e
  · exact h.no e
  · have := h.row.lt; omega
theorem Asd.keep {X N : Nat} {T : TypeId} {F : Nat → Value} {Q : Nat → Prop} (h : Asd w x g O v X T N F) (f : Fr Q w w') (hq : ¬ Q X) : Asd w' x g O v X T N F := ⟨h.row.of_block (f.block _ h.row.lt hq), h.no⟩
theorem Asd.alloc {X N : Nat} {T : TypeId} {F : Nat → Value} (h : Asd w x g O v X T N F) (o : Obj) : Asd (w.alloc o) x g O v X T N F := ⟨h.row.alloc o, h.no⟩
theorem Asb.keep {u : Value} {N : Nat} {f : Nat → Int} {Q : Nat → Prop} (h : Asb w x g O v u N f) (hf : Fr Q w w') (hq : ∀ k, ¬ OwnD x g O v k → k < w.heap.size → ¬ Q k) : Asb w' x g O v u N f := ByAt.fr h hf hq
theorem Asb.step {u : Value} {N : Nat} {f : Nat → Int} (h : Asb w x g O v u N f) (c : CD x g O v v2 w w') : Asb w' x g O v2 u N f := by
  have h2 : ByAt (fun k => ¬ OwnD x g O v k) w' u N f := h.fr c.fr (fun k hk _ => hk)
  rcases h with h | ⟨ad, cp, hv, hc, hq, hi⟩
  · exact .inl h
  · rcases h2 with h2 | ⟨ad2, cp2, hv2, hc2, hq2, hi2⟩
    · exact .inl h2
    · rw [hv] at hv2
      injection hv2 with e1 e2 e3
      injection e1 with e1
      subst e1
      refine .inr ⟨ad, cp2, by rw [hv, e3], hc2, fun hn => ⟨(hq2 hn).1, fun e => ?_⟩, hi2⟩
      rcases c.own _ e with e | e
      · exact (hq hn).2 e
      · have hl := block_lt_of_cell (hi 0 hn).1
        rw [add_block] at hl
        omega
theorem One.by (h : One W0 w x g r y O p n d v S) {u : Value} {N : Nat} {f : Nat → Int} (hB : ByAt (fun k => w.heap.size ≤ k) w' u N f) : Asb w' x g O v u N f := hB.mono fun k hk e => by have := h.dm.lt k e; omega
theorem One.rw (h : One W0 w x g r y O p n d v S) {X N : Nat} {T : TypeId} {F : Nat → Value} (hr : w'.rowIs X T N F) (hX : w.heap.size ≤ X) : Asd w' x g O v X T N F := ⟨hr, fun e => by have := h.dm.lt X e; omega⟩
/-- bounds ahead of a call -/
structure Gb (S : DS) : Prop where
  a0 : 0 ≤ S.a ∧ S.a ≤ 1000000
  z0 : 0 ≤ S.z
  z1 : S.z < 4294967296
  t0 : 0 ≤ S.t
  t1 : S.t < 4294967296
theorem write_to (h : One W0 w x g r y O p n d v S) (k : Nat) (z u : Int) {b : Bool} (hk : k ≤ 6) (hz : z = (k : Int) * 4) (hb : decide (k < 4) = b) (hS : wrD k u 0 S = S2) (hG : Gb S) (u0 : 0 ≤ u) (u1 : u < 4294967296) (d0 : 0 ≤ d) (d1 : d < 16) :
    Calls Try.prog 14 #[.pointer (some ⟨x, 0, none⟩), .int .u32 z, .int .u32 u, .int .i64 0] w (RetO (.bool b) W0 w x g r y O p n d v S2) :=
  (dwrite_any k z u 0 h.dm hk hz u0 u1 hG.a0 d0 d1 (by omega) (by omega)).mono fun e w' ⟨he, v2, h2, c⟩ => ⟨by rw [he, hb], v2, hS ▸ h.step h2 c, c⟩
theorem fire_to (h : One W0 w x g r y O p n d v S) (now : Int) (hn : n ≤ 64) (hS : fiD p n S = S2) (hG : Gb S) :
    Calls Try.prog 16 #[.pointer (some ⟨x, 0, none⟩), .int .i64 now] w (RetO (.tuple #[]) W0 w x g r y O p n d v S2) :=
  (dfire_any now h.dm hn hG.z0 hG.z1 hG.t0 hG.t1).mono fun e w' ⟨he, v2, h2, c⟩ => ⟨he, v2, hS ▸ h.step h2 c, c⟩
theorem line_to (h : One W0 w x g r y O p n d v S) {b : Bool} (hb : (S.dn || S.er) = b) :
    Calls Try.prog 21 #[.pointer (some ⟨x, 0, none⟩)] w fun e w' => e = .returned (.bool b) ∧ w = w' :=
  (dline_any h.dm).mono fun e w' ⟨he, hw⟩ => ⟨by rw [he, hb], hw⟩
theorem read_to (h : One W0 w x g r y O p n d v S) (k : Nat) (z : Int) {u : Int} {b : Bool} (hk : k ≤ 6) (hz : z = (k : Int) * 4) (hb : decide (k < 4) = b) (hx : wordD k S = u) :
    Calls Try.prog 20 #[.pointer (some ⟨x, 0, none⟩), .int .u32 z] w fun e w' => e = .returned (.tuple #[.int .u32 u, .bool b]) ∧ w = w' :=
  (dread_any k z h.dm hk hz).mono fun e w' ⟨he, hw⟩ => ⟨by rw [he, hb, hx], hw⟩
theorem take_yes (h : One W0 w x g r y O p n d v S) {u s : Int} (now : Int) (hq : S.q = some (u, s)) (hx : u ≤ now) (hS : { S with q := none } = S2) :
    Calls Try.prog 15 #[.pointer (some ⟨g, 0, none⟩), .int .i64 now] w (RetO (.tuple #[.agg #[.int .i64 u, .int .i64 d, .int .i64 s], .bool true]) W0 w x g r y O p n d v S2) := by
  have hd : duB now S = true := by unfold duB; rw [hq]; exact decide_eq_true hx
  have e1 : tmQ S = u := by unfold tmQ; rw [hq]
  have e2 : sqQ S = s := by unfold sqQ; rw [hq]
  have := dtake_yes h.dm hd
  rw [e1, e2] at this
  exact this.mono fun e w' ⟨he, v2, h2, c⟩ => ⟨he, v2, hS ▸ h.step h2 c, c⟩
theorem put_to {Q : Nat → Prop} (h : One W0 w x g r y O p n d v S) (a : Int) (u : Value) (N : Nat) (f : Nat → Int) {b : Bool} (hv : ByAt Q w u N f) (hb : inB p a N = b) (hS : { S with C := uC p S.C a N f } = S2) (h0 : 0 ≤ a) (h1 : a < 4294967296) (hn : N ≤ 9223372036854775807) :
    Calls Try.prog 13 #[.pointer (some ⟨r, 0, none⟩), .int .u32 a, u] w (RetO (.bool b) W0 w x g r y O p n d v S2) :=
  (kput_any a u N f h.dm.mm hv h0 h1 hn).mono fun e w' ⟨he, hm, hf⟩ => ⟨by rw [he, hb], v, hS ▸ h.step (h.dm.mem hm hf) (CD.of_mem hf), CD.of_mem hf⟩
end
def kL : List Int := [100, 105, 115, 107]
def kF : Nat → Int := fun i => kL.getD i 0
theorem kF_bd (i : Nat) : 0 ≤ kF i ∧ kF i ≤ 255 := by
  have h : ∀ j : Nat, j < 4 → 0 ≤ kF j ∧ kF j ≤ 255 := by decide
  by_cases hi : i < 4
  · exact h i hi
  · unfold kF; rw [List.getD_eq_getElem?_getD, List.getElem?_eq_none (by show 4 ≤ i; omega)]; exact ⟨by decide, by decide⟩
/-- a literal row of bytes in a new block, marked -/
theorem lit_by {f : Nat → Int} (hf : ∀ i, 0 ≤ f i ∧ f i ≤ 255) (W : World) (N : Nat) (cs : Array Value) (t : TypeId) (fr : Nat × Nat) (h : ∀ i, i < N → cs[i]? = some (.int .u8 (f i))) : ByAt (fun k => k = W.heap.size) (W.alloc (.cells cs t fr)) (.slice (some ⟨W.heap.size, 0, none⟩) N N) N f := by
  refine .inr ⟨_, _, rfl, Nat.le_refl _, fun _ => ⟨rfl, rfl⟩, fun i hi => ⟨?_, hf i⟩⟩
  rw [add_none, Nat.zero_add]
  have e : (W.alloc (.cells cs t fr)).cell? ⟨W.heap.size, i, none⟩ = cs[i]? := World.cell?_alloc_mark W cs t fr i
  rw [e, h i hi]
theorem conv_lit {w : World} {X N : Nat} {f : Nat → Int} {s : ByteArray} (h : w.rowIs X 5 N (fun i => .int .u8 (f i))) (hb : ∀ i, 0 ≤ f i ∧ f i ≤ 255) (hs : strN N f = s) : (convert 28 9 (.slice (some ⟨X, 0, none⟩) N N)).run Try.prog w = .ok (.string s) w := by
  rw [← hs]
  exact conv_any (row_by h hb)
theorem kbytes_row5 {w : World} {r y : Nat} {O : Nat → Prop} {n : Nat} {C D : Nat → Int} (h : Mk 85 w r y O 1 n C D) :
    Calls Try.prog 17 #[.pointer (some ⟨r, 0, none⟩), .int .u32 100, .int .i64 5] w fun e w' => ∃ X, w.heap.size ≤ X ∧ e = .returned (.tuple #[.slice (some ⟨X, 0, none⟩) 5 5, .bool true]) ∧ w'.rowIs X 5 5 (fun i => .int .u8 (C (100 + i))) ∧ Fr (fun _ => False) w w' :=
  kbytes_row 100 5 h (by omega) (by omega)
set_option maxHeartbeats 4000000 in
set_option maxRecDepth 100000 in
theorem known_any (w : World) : Calls Try.prog 12 #[] w (RetB (.bool true) w) := by
  have H2 : Hid (wrD 1 100 0 (S00 Z0 (imD 4 kF)) = ⟨0, 100, 0, false, false, false, none, 0, Z0, imD 4 kF⟩) := Lib.hid rfl
  have H4 : Hid (wrD 2 1 0 ⟨0, 100, 0, false, false, false, none, 0, Z0, imD 4 kF⟩ = ⟨0, 100, 1, true, false, false, some (32, 0), 1, Z0, imD 4 kF⟩) := Lib.hid rfl
  have H5 : Hid (fiD 1 1 ⟨0, 100, 1, true, false, false, none, 1, Z0, imD 4 kF⟩ = ⟨0, 100, 1, false, true, false, none, 1, putC Z0 100 64 (fun i => imD 4 kF (0 + i)), imD 4 kF⟩) := Lib.hid rfl
  have H6 : Hid (strN 5 (fun i => putC Z0 100 64 (fun i => imD 4 kF (0 + i)) (100 + i)) = ⟨#[100, 105, 115, 107, 0]⟩) := Lib.hid rfl
  have G0 : Gb (S00 Z0 (imD 4 kF)) := ⟨by decide, by decide, by decide, by decide, by decide⟩
  have G1 : Gb ⟨0, 100, 0, false, false, false, none, 0, Z0, imD 4 kF⟩ := ⟨by decide, by decide, by decide, by decide, by decide⟩
  have G2 : Gb ⟨0, 100, 1, true, false, false, none, 1, Z0, imD 4 kF⟩ := ⟨by decide, by decide, by decide, by decide, by decide⟩
  go_enter Try.func12, Try.ntmps12
  go_wp2_with fail
  refine (wnew_any w).mono ?_
  rintro e w1 ⟨g, hg, rfl, hw, hb⟩
  go_wp2_with fail
  with_reducible refine (mnew_any 1 1 rfl w1).mono ?_
  rintro e w2 ⟨r, M, rfl, ho, hm, hb2⟩
  have hw2 := hw.below hb2
  have hog : ¬ M g := fun e => by have := ho g e; have := hw.lt g (.inl rfl); omega
  have bl : Below w2.heap.size w2 (w2.alloc (.cells #[.int .u8 100, .int .u8 105, .int .u8 115, .int .u8 107] 5 (4, 5))) := (Below.refl _ _).alloc (Nat.le_refl _) _
  have kc := Lib.run_convert_bytes_const (P := Try.prog) w2 28 5 #[.int .u8 100, .int .u8 105, .int .u8 115, .int .u8 107] 4 4 Try.underlying28 Try.underlying5
  have hv := lit_by kF_bd w2 4 #[.int .u8 100, .int .u8 105, .int .u8 115, .int .u8 107] 5 (4, 5) (fun i hi => by
    have : i = 0 ∨ i = 1 ∨ i = 2 ∨ i = 3 := by omega
    rcases this with rfl | rfl | rfl | rfl <;> rfl)
  have hw3 := hw2.below bl
  have hm3 := hm.below bl
  have hb2' := hb2.trans (bl.mono hb2.size)
  clear hw2 hm bl
  go_wp2_with fail
  generalize w2.alloc (.cells #[.int .u8 100, .int .u8 105, .int .u8 115, .int .u8 107] 5 (4, 5)) = w2' at hw3 hm3 hb2' hv ⊢
  generalize w2.heap.size = B at hv ⊢
  with_reducible refine (dnew_any 5 _ 4 kF hw3 hm3 hog hv (by omega)).mono ?_
  rintro e w3 ⟨x, y, hx, hy, rfl, hD, hb3⟩
  have o3 : One w w3 x g r y (fun k => M k ∨ k = y) 1 1 5 (.slice none 0 0) (S00 Z0 (imD 4 kF)) := One.new hg hb (fun k hk => by rcases hk with e | e; exact ho k e; have := hb2'.size; omega) hb2' hx hD hb3
  clear hg hw hb ho hb2 hw3 hm3 hb2' hv hog hx hy hD hb3
  generalize (fun k => M k ∨ k = y) = O at o3
  have HC5 := Lib.hid (show ∀ i, 0 ≤ (fun i => putC Z0 100 64 (fun i => imD 4 kF (0 + i)) (100 + i)) i ∧ (fun i => putC Z0 100 64 (fun i => imD 4 kF (0 + i)) (100 + i)) i ≤ 255 from fun i => putC_bd (fun _ => ⟨Int.le_refl 0, by show (0 : Int) ≤ 255; omega⟩) (fun j _ => imD_bd (fun k _ => kF_bd k) (0 + j)) (100 + i))
  go_wp2_with fail
  with_reducible refine (dsect_any o3.dm (by omega)).mono ?_
  rintro e w4 ⟨rfl, rfl⟩
  go_wp2_with fail
  with_reducible refine (write_to o3 1 4 100 (by omega) (by omega) rfl H2.out G0 (by omega) (by omega) (by omega) (by omega)).mono ?_
  rintro e w5 ⟨rfl, v5, o5, _⟩
  clear o3
  go_wp2_with fail
  with_reducible refine (write_to o5 2 8 1 (by omega) (by omega) rfl H4.out G1 (by omega) (by omega) (by omega) (by omega)).mono ?_
  rintro e w6 ⟨rfl, v6, o6, _⟩
  clear o5
  go_wp2_with fail
  with_reducible refine (take_yes o6 32 rfl (by omega) rfl).mono ?_
  rintro e w9 ⟨rfl, v9, o9, _⟩
  have o10 := o9.alloc (.cells #[.int .i64 32, .int .i64 5, .int .i64 0] 42)
  clear o6 o9
  go_wp2_with fail
  with_reducible refine (fire_to o10 32 (by omega) H5.out G2).mono ?_
  rintro e w11 ⟨rfl, v11, o11, _⟩
  clear o10
  go_wp2_with fail
  with_reducible refine (kbytes_row5 o11.dm.mm).mono ?_
  rintro e w12 ⟨X, hX, rfl, hr12, hf12⟩
  have o12 := o11.no hf12
  have k12 := conv_lit hr12 HC5.out H6.out
  clear o11 hX
  go_wp2_with fail
  with_reducible refine (read_to o12 3 12 (by omega) (by omega) rfl (u := 2) rfl).mono ?_
  rintro e w13 ⟨rfl, rfl⟩
  go_wp2_with fail
  with_reducible refine (line_to o12 (b := true) rfl).mono ?_
  rintro e w13 ⟨rfl, rfl⟩
  have hbl := o12.bl
  go_wp2
  go_ret
  exact ⟨rfl, hbl⟩
end Go.Proofs.Ytifhnidcdfpabaa
