/-
  Chapter 14: the walk of DiskErrors.
-/
import Derived.Test.YtifhnidcdfpabaaZe14
import Derived.Deep.DeepCutAuto
import Derived.Deep.CutBlock
import Derived.Deep.RegionHeld3
import Derived.Deep.RegionWith
namespace Go.Proofs.Ytifhnidcdfpabaa
open Go.RowKit
set_option linter.unusedVariables false
set_option linter.unusedSimpArgs false
def w3f (a b c : Int) : Nat → Value
  | 0 => .int .u32 a
  | 1 => .int .u32 b
  | _ => .int .u32 c
/-- words of a command that may not be done, of four sectors and one page -/
def badW (a b c : Int) : Prop := 0 ≤ a ∧ a < 4294967296 ∧ 0 ≤ b ∧ b < 4294967296 ∧ 0 ≤ c ∧ c < 4294967296 ∧ (4 ≤ a ∨ 960 < b ∨ (¬ c = 1 ∧ ¬ c = 2))
theorem ok_bad {a b c : Int} (h : badW a b c) (bz dn er : Bool) (q : Option (Int × Int)) (s : Int) (C D : Nat → Int) : okK 1 4 ⟨a, b, c, bz, dn, er, q, s, C, D⟩ = false := by
  obtain ⟨h0, h1, h2, h3, h4, h5, h6⟩ := h
  show (decide (a < ((4 : Nat) : Int)) && ((decide (c = 1) || decide (c = 2)) && inB 1 b 64)) = false
  rcases h6 with h | h | ⟨h, h'⟩
  · rw [decide_eq_false (by omega)]; rfl
  · have e : inB 1 b 64 = false := by unfold inB; exact decide_eq_false (by omega)
    rw [e, Bool.and_false, Bool.and_false]
  · rw [decide_eq_false h, decide_eq_false h']; exact Bool.and_false _
theorem er_fire {a b c s : Int} {C D : Nat → Int} (h : badW a b c) : fiD 1 4 ⟨a, b, c, true, false, false, none, s, C, D⟩ = ⟨a, b, c, false, true, true, none, s, C, D⟩ := by
  unfold fiD
  rw [ok_bad h]
theorem bad0 (y : Int) (h : 0 ≤ y) : badW (4 + y % 1000000) 0 2 := ⟨by omega, by omega, by omega, by omega, by omega, by omega, by omega⟩
theorem bad1 (y : Int) (h : 0 ≤ y) : badW 1 (961 + y % 1000000) 2 := ⟨by omega, by omega, by omega, by omega, by omega, by omega, by omega⟩
theorem bad2 (y : Int) (h : 0 ≤ y) : badW 1 0 (3 + y % 1000000) := ⟨by omega, by omega, by omega, by omega, by omega, by omega, by omega⟩
theorem gbM {z t c a : Int} (b d e : Bool) (q : Option (Int × Int)) (C D : Nat → Int) (ha : 0 ≤ a ∧ a ≤ 1000000) (hz : 0 ≤ z ∧ z < 4294967296) (ht : 0 ≤ t ∧ t < 4294967296) : Gb ⟨z, t, c, b, d, e, q, a, C, D⟩ := ⟨ha, hz.1, hz.2, ht.1, ht.2⟩
theorem ByAt.lt {Q : Nat → Prop} {w : World} {v : Value} {n : Nat} {f : Nat → Int} (h : ByAt Q w v n f) : ByAt (fun k => Q k ∧ k < w.heap.size) w v n f := by
  rcases h with h | ⟨ad, c, hv, hc, hq, hi⟩
  · exact .inl h
  · refine .inr ⟨ad, c, hv, hc, fun hn => ⟨(hq hn).1, (hq hn).2, ?_⟩, hi⟩
    have hl := block_lt_of_cell (hi 0 hn).1
    rwa [add_block] at hl
theorem ByAt.str {Q : Nat → Prop} {w : World} {v : Value} {n : Nat} {f : Nat → Int} {st : ByteArray} (h : ByAt Q w v n f) (hs : strN n f = st) : (convert 28 9 v).run Try.prog w = .ok (.string st) w := hs ▸ conv_any h
theorem Asd.str {w : World} {x g : Nat} {O : Nat → Prop} {v : Value} {X N : Nat} {f : Nat → Int} {st : ByteArray} (h : Asd w x g O v X 5 N (fun i => .int .u8 (f i))) (hf : ∀ i, 0 ≤ f i ∧ f i ≤ 255) (hs : strN N f = st) : (convert 28 9 (.slice (some ⟨X, 0, none⟩) N N)).run Try.prog w = .ok (.string st) w := hs ▸ conv_any (row_by h.row hf)
section
variable {W0 w : World} {x g r : Nat} {O : Nat → Prop} {p : Nat} {d : Int} {v : Value} {S : DS} {X Z n : Nat} {F : Nat → Value} {a b c a2 b2 c2 : Int}
theorem row_apart (h1 : Asd w x g O v Z 50 3 (w3f a b c)) (h2 : Asd w x g O v X 5 n F) : Z ≠ X := by
  rintro rfl
  obtain ⟨c1, hb1, _⟩ := h1.row
  obtain ⟨c2, hb2, _⟩ := h2.row
  rw [hb1] at hb2
  cases hb2
/-- a word of the three is another one -/
theorem set3 {y sn : Nat} (h : One W0 w x g r y O p sn d v S) (z : Asd w x g O v Z 50 3 (w3f a b c)) (lZ : W0.heap.size ≤ Z) (k : Nat) (u : Int) (hw : ∀ j, j < 3 → (if j = k then Value.int .u32 u else w3f a b c j) = w3f a2 b2 c2 j) :
    One W0 (w.setCell ⟨Z, k, none⟩ (.int .u32 u)) x g r y O p sn d v S ∧ Asd (w.setCell ⟨Z, k, none⟩ (.int .u32 u)) x g O v Z 50 3 (w3f a2 b2 c2) ∧ (∀ {X n F}, Asd w x g O v X 5 n F → Asd (w.setCell ⟨Z, k, none⟩ (.int .u32 u)) x g O v X 5 n F) ∧ ∀ {u2 N f}, ByAt (fun k => ¬ OwnD x g O v k ∧ k < Z) w u2 N f → Asb (w.setCell ⟨Z, k, none⟩ (.int .u32 u)) x g O v u2 N f := by
  have f : Fr (fun j => j = Z) w (w.setCell ⟨Z, k, none⟩ (.int .u32 u)) := (Fr.refl (fun j => j = Z) w).setCell (x := ⟨Z, k, none⟩) (.inl rfl) _
  exact ⟨h.other f z.no lZ, ⟨(z.row.set k _).congr hw, z.no⟩, fun h2 => h2.keep f (fun e => row_apart z h2 e.symm), fun h2 => (h2.fr f (fun k hk _ e => by have := hk.2; omega)).mono (fun k hk => hk.1)⟩
end
/-- 'take first', the slot named -/
theorem take_e {PP : Program} {md : Region.Mode} {ops : Array Oper} {QQ : Exit → Act → World → Prop} {SS : World → Prop} {i : Nat} (d : Option Tmp) {oi : Oper} {v : Value} {fuel : Nat} {listed : Array Bool} {a : Act} {w : World} (hi : ops[i]? = some oi) (hd : oi.dst = d)
    (hs : Region.noSelect ops = true) (hf : Region.free md ops listed i = true) (hr : (Region.ready md ops listed).contains i = true) (hQ : ∀ c a w, QQ (.panic c) (a.put d v) w → QQ (.panic c) a w) (hy : YieldsIf PP ops SS oi v a) (hS : SS w)
    (h : wpAnyH PP md ops QQ SS fuel (listed.setIfInBounds i true) (a.put d v) w) : wpAnyH PP md ops QQ SS (fuel + 1) listed a w := by
  subst hd
  exact wpAnyH_take hi hs hf hr hQ hy hS h
/-- append of bytes to an empty row of one's own -/
theorem app_bytes {Q : Nat → Prop} {w : World} {B m : Nat} {v x : Value} {f : Nat → Int} (ty : TypeId) (hown : w.ownsRow B 5 1 v 0 []) (hx : ByAt Q w x m f) (hB : B ≤ w.heap.size) (hm : m ≤ 100000) :
    ∃ v' w', (Builtin.append_ #[28, 28] ty #[v, x]).run Try.prog w = .ok v' w' ∧ w'.ownsRow B 5 1 v' m ((List.range m).map fun i => Value.int .u8 (f i)) ∧ (∀ w0, Below B w0 w → Below B w0 w') ∧ w.heap.size ≤ w'.heap.size := by
  obtain ⟨i0, hi, hi3⟩ := Option.map_eq_some_iff.1 info_u8
  simp only [Prod.mk.injEq] at hi3
  obtain ⟨hz0, hz1, hz2⟩ := hi3
  have hbl : ∀ k, v.ownBlock = some k → B ≤ k := by
    rcases hown.2 with ⟨rfl, _⟩ | ⟨g, cap, cur, rfl, hg, _⟩
    · intro k e; cases e
    · intro k e; cases e; exact hg
  rcases hx with ⟨c, rfl, rfl⟩ | ⟨ad, c, rfl, hc, hq, hcell⟩
  · refine ⟨v, w, ?_, hown, fun _ h => h, Nat.le_refl _⟩
    rcases hown.2 with ⟨rfl, _⟩ | ⟨g, cap, cur, rfl, _, _, hnc, _⟩
    · simp [Builtin.append_, run_underlying Try.underlying28, sizeOf, typeInfo, hi, Builtin.lenOf, Builtin.firstCells]
    · simp [Builtin.append_, run_underlying Try.underlying28, sizeOf, typeInfo, hi, Builtin.lenOf, Builtin.firstCells, hnc, storeCells]
  · obtain ⟨v', w', hr, h1, h2, _, h4⟩ := run_append_own_at (P := Try.prog) w B 28 ty 5 i0 (.int .u8 0) 1 1 Try.underlying28 hi hz0 hz1 hz2 rfl (by decide) v 0 [] hown ad m c ((List.range m).map fun i => Value.int .u8 (f i)) (by simp) (fun j u hj => by
      have hjn : j < m := by
        rcases Nat.lt_or_ge j m with q | q
        · exact q
        · rw [List.getElem?_eq_none (by simpa using q)] at hj; cases hj
      rw [List.getElem?_map, List.getElem?_range hjn] at hj
      have e : Value.int .u8 (f j) = u := by simpa using hj
      rw [← e]
      exact (hcell j hjn).1) (by intro u hu; simp at hu; obtain ⟨j, _, rfl⟩ := hu; rfl) (by unfold maxLen; omega) (by omega) hB
    refine ⟨v', w', hr, by simpa using h1, fun w0 h => (fr_of_grown h2).after h hB (fun k hk => hbl k hk.symm), h2.size⟩
def mL : List Int := [109, 101, 109, 111, 114, 121]
def mF : Nat → Int := fun i => mL.getD i 0
theorem mF_bd (i : Nat) : 0 ≤ mF i ∧ mF i ≤ 255 := by
  have h : ∀ j : Nat, j < 6 → 0 ≤ mF j ∧ mF j ≤ 255 := by decide
  by_cases hi : i < 6
  · exact h i hi
  · unfold mF; rw [List.getD_eq_getElem?_getD, List.getElem?_eq_none (by show 6 ≤ i; omega)]; exact ⟨by decide, by decide⟩
theorem kbytes_all {w : World} {r y : Nat} {O : Nat → Prop} {n : Nat} {C D : Nat → Int} (h : Mk 85 w r y O 1 n C D) :
    Calls Try.prog 17 #[.pointer (some ⟨r, 0, none⟩), .int .u32 0, .int .i64 1024] w fun e w' => ∃ X, w.heap.size ≤ X ∧ e = .returned (.tuple #[.slice (some ⟨X, 0, none⟩) 1024 1024, .bool true]) ∧ w'.rowIs X 5 1024 (fun i => .int .u8 (C (0 + i))) ∧ Fr (fun _ => False) w w' :=
  kbytes_row 0 1024 h (by omega) (by omega)
set_option maxHeartbeats 8000000 in
set_option maxRecDepth 100000 in
theorem errors_walk (A : Option Addr) (len cap : Nat) (n yv : Int) (w : World) (HB : Hid (InBy w A len cap)) (n0 : -9223372036854775808 ≤ n) (n1 : n ≤ 9223372036854775807) (y0 : 0 ≤ yv) (y1 : yv < 4294967296) :
    Calls Try.prog 6 #[.slice A len cap, .int .i64 n, .int .u32 yv] w (RetB (.bool true) w) := by
  obtain ⟨f, hlc, hlm, hf⟩ := HB.out
  have HF := Lib.hid hf
  clear hf HB
  go_enter Try.func6, Try.ntmps6
  go_wp2_with fail
  refine (wnew_any w).mono ?_
  rintro e w1 ⟨g, hg, rfl, hw, hb⟩
  go_wp2_with fail
  with_reducible refine (mnew_any 1 1 rfl w1).mono ?_
  rintro e w2 ⟨r, M, rfl, ho, hm, hb2⟩
  have hw2 := hw.below hb2
  have hog : ¬ M g := fun e => by have := ho g e; have := hw.lt g (.inl rfl); omega
  go_upto_if 26 with fail
  go_cut [0] (fun s wc => ∃ (m cc : Nat), m ≤ 256 ∧ s = .slice A m cc ∧ w2 = wc ∧ Hid (ByAt (fun k => k < w.heap.size) w (.slice A m cc) m f))
  case first =>
    by_cases h16 : len ≤ 256
    · go_wp2_with fail
      go_meet
      exact ⟨len, cap, h16, rfl, rfl, HF.out len (Nat.le_refl _)⟩
    · go_wp2_with fail
      go_meet
      exact ⟨256, cap, Nat.le_refl _, rfl, rfl, HF.out 256 (by omega)⟩
  case rest =>
    obtain ⟨m, cc, h16, rfl, rfl, HV⟩ := hcut
    clear HF hlc hlm
    have hs1 := hb.size
    have hs2 := hb2.size
    have bl0 : Below w2.heap.size w2 (w2.alloc (.cells #[] 5)) := (Below.refl _ _).alloc (Nat.le_refl _) _
    have hown : (w2.alloc (.cells #[] 5)).ownsRow w2.heap.size 5 1 (.slice (some ⟨w2.heap.size, 0, none⟩) 0 0) 0 [] := World.ownsRow_lit w2 #[] 0 (Nat.le_refl _) (by unfold maxLen; omega) rfl
    have hv2 : ByAt (fun k => k < w.heap.size) (w2.alloc (.cells #[] 5)) (.slice A m cc) m f := ((HV.out.fr (S := fun _ => False) (Fr.of_below hb) (fun _ _ _ => id)).fr (S := fun _ => False) (Fr.of_below hb2) (fun _ _ _ => id)).fr (S := fun _ => False) (Fr.of_below bl0) (fun _ _ _ => id)
    have HFB := Lib.hid (fun j (hj : j < m) => HV.out.bounds j hj)
    obtain ⟨va, wa, ra, oa, ba, sa⟩ := app_bytes (B := w2.heap.size) 28 hown hv2 bl0.size (by omega)
    have hfm : (List.range m).map (fun i => Value.int .u8 (f i)) = (List.range m).map (fun i => Value.int .u8 (padF m f i)) := by
      apply List.map_congr_left
      intro i hi
      unfold padF
      rw [if_pos (List.mem_range.1 hi)]
    have hpb : ∀ i, 0 ≤ padF m f i ∧ padF m f i ≤ 255 := fun i => by
      unfold padF
      split
      · exact HFB.out i (by assumption)
      · omega
    rw [hfm] at oa
    obtain ⟨k, hk⟩ : ∃ k : Nat, m + k = 256 := ⟨256 - m, by omega⟩
    obtain ⟨vb, wb, rb, ob, bb⟩ := app_zeros (B := w2.heap.size) 28 oa hpb (Nat.le_trans bl0.size sa) hk
    have hkI : (256 : Int) - (m : Int) = (k : Int) := by omega
    rw [← hkI] at rb
    have RA := Lib.hid ra
    have RB := Lib.hid rb
    have hbw := bb w2 (ba w2 bl0)
    have HOB := Lib.hid ob
    clear ra rb oa ba bb hown hv2 bl0 hfm hpb hkI ob
    go_wp2_with (at_builtin; first | refine wpList_append_go rfl (.tmp 31) (.tmp 32) 28 28 rfl _ _ rfl rfl RA.out ?_ | refine wpList_append_go rfl (.tmp 33) (.tmp 36) 28 3 rfl _ _ rfl rfl RB.out ?_)
    with_reducible refine (dnew_any 5 vb 256 (padF m (padF m f)) (hw2.below hbw) (hm.below hbw) hog HOB.out (by omega)).mono ?_
    rintro e w3 ⟨x, y, hx, hy, rfl, hD, hb3⟩
    have hb2' := hb2.trans (hbw.mono hs2)
    have o3 : One w w3 x g r y (fun k => M k ∨ k = y) 1 4 5 (.slice none 0 0) (S00 Z0 (imD 256 (padF m (padF m f)))) := One.new hg hb (fun k hk => by rcases hk with e | e; exact ho k e; have := hb2'.size; omega) hb2' hx hD hb3
    clear hg hw hb ho hm hb2 hw2 hog hx hy hD hb3 hbw hb2' hs1 hs2 RA RB HOB sa hk HFB HV
    generalize (fun k => M k ∨ k = y) = O at o3
    generalize imD 256 (padF m (padF m f)) = D at o3
    go_wp2_with fail
    with_reducible refine (dsect_any o3.dm (by omega)).mono ?_
    rintro e w4 ⟨rfl, rfl⟩
    have bl : Below w3.heap.size w3 (w3.alloc (.cells #[.int .u8 109, .int .u8 101, .int .u8 109, .int .u8 111, .int .u8 114, .int .u8 121] 5 (6, 7))) := (Below.refl _ _).alloc (Nat.le_refl _) _
    have kc := Lib.run_convert_bytes_const (P := Try.prog) w3 28 5 #[.int .u8 109, .int .u8 101, .int .u8 109, .int .u8 111, .int .u8 114, .int .u8 121] 6 6 Try.underlying28 Try.underlying5
    have hv := lit_by mF_bd w3 6 #[.int .u8 109, .int .u8 101, .int .u8 109, .int .u8 111, .int .u8 114, .int .u8 121] 5 (6, 7) (fun i hi => by
      have : i = 0 ∨ i = 1 ∨ i = 2 ∨ i = 3 ∨ i = 4 ∨ i = 5 := by omega
      rcases this with rfl | rfl | rfl | rfl | rfl | rfl <;> rfl)
    have o4 := o3.below bl
    have HI6 : Hid (inB 1 0 ((6 : Nat) : Int) = true) := Lib.hid rfl
    clear o3 bl
    go_wp2_with fail
    generalize w3.alloc (.cells #[.int .u8 109, .int .u8 101, .int .u8 109, .int .u8 111, .int .u8 114, .int .u8 121] 5 (6, 7)) = w3' at o4 hv ⊢
    generalize w3.heap.size = Bm at hv ⊢
    with_reducible refine (put_to o4 0 _ 6 mF hv HI6.out (S2 := S00 (uC 1 Z0 0 6 mF) D) rfl (by omega) (by omega) (by omega)).mono ?_
    rintro e w4 ⟨rfl, v4, o5, _⟩
    generalize uC 1 Z0 0 6 mF = C at o5
    clear o4 hv kc
    go_wp2_with fail
    with_reducible refine (dbytes_any o5.dm (by omega)).mono ?_
    rintro e w5 ⟨u5, rfl, hB5, hF5⟩
    have b6 : Asb w5 x g O v4 u5 256 D := o5.by hB5
    have o6 := o5.no hF5
    have bl6 : Below w5.heap.size w5 (w5.alloc (.cells #[] 5)) := (Below.refl _ _).alloc (Nat.le_refl _) _
    have o7 := o6.below bl6
    have b7 : Asb (w5.alloc (.cells #[] 5)) x g O v4 u5 256 D := b6.keep (Fr.of_below (S := fun _ => False) bl6) (fun _ _ _ => id)
    clear o5 hB5 hF5 b6 o6 bl6
    go_wp2_with fail
    generalize w5.alloc (.cells #[] 5) = w6 at o7 b7 ⊢
    with_reducible refine (kbytes_all o7.dm.mm).mono ?_
    rintro e w7 ⟨X, hX, rfl, hr7, hf7⟩
    have o8 := o7.no hf7
    have x8 := o7.rw hr7 hX
    have b8 : Asb w7 x g O v4 u5 256 D := b7.keep hf7 (fun _ _ _ => id)
    have b8l := ByAt.lt b8
    have bl8 : Below w7.heap.size w7 (w7.alloc (.cells #[.int .u32 1, .int .u32 0, .int .u32 2] 50)) := (Below.refl _ _).alloc (Nat.le_refl _) _
    have o9 := o8.below bl8
    have x9 := x8.alloc (.cells #[.int .u32 1, .int .u32 0, .int .u32 2] 50)
    have b9 : ByAt (fun k => ¬ OwnD x g O v4 k ∧ k < w7.heap.size) (w7.alloc (.cells #[.int .u32 1, .int .u32 0, .int .u32 2] 50)) u5 256 D := b8l.fr (S := fun _ => False) (Fr.of_below bl8) (fun _ _ _ => id)
    have z9 : Asd (w7.alloc (.cells #[.int .u32 1, .int .u32 0, .int .u32 2] 50)) x g O v4 w7.heap.size 50 3 (w3f 1 0 2) := o8.rw (World.rowIs_alloc w7 _ _ _ fun i hi => by
      have : i = 0 ∨ i = 1 ∨ i = 2 := by have : i < 3 := hi; omega
      rcases this with rfl | rfl | rfl <;> rfl) (Nat.le_refl _)
    have lZ : w.heap.size ≤ w7.heap.size := o8.bl.size
    clear o7 hr7 hf7 hX b7 o8 x8 b8 b8l bl8
    go_wp2_with fail
    generalize w7.alloc (.cells #[.int .u32 1, .int .u32 0, .int .u32 2] 50) = w8 at o9 x9 b9 z9 ⊢
    generalize w7.heap.size = Z at b9 z9 lZ ⊢
    with_reducible refine (within_any n 0 2 w8 (by omega) (by omega) (by omega) n0 n1).mono ?_
    rintro e w' ⟨k, k0, k1, rfl, rfl⟩
    obtain ⟨k, rfl⟩ : ∃ j : Nat, k = j := ⟨k.toNat, by omega⟩
    have hk : k < 3 := by omega
    clear n0 n1 k0 k1
    go_upto_region 12 with fail
    go_cut [13] (fun s wc => s = .int .i64 k ∧ One w wc x g r y O 1 4 5 v4 (S00 C D) ∧ Asd wc x g O v4 X 5 1024 (fun i => .int .u8 (C (0 + i))) ∧ Asb wc x g O v4 u5 256 D ∧ ∃ a b c, badW a b c ∧ Asd wc x g O v4 Z 50 3 (w3f a b c))
    case first =>
      have bl9 : Below w8.heap.size w8 (w8.alloc (.cells #[.int .u32 4, .int .u32 961, .int .u32 3] 24)) := (Below.refl _ _).alloc (Nat.le_refl _) _
      have z7 := z9.alloc (.cells #[.int .u32 4, .int .u32 961, .int .u32 3] 24)
      have o7 := o9.below bl9
      have x7 := x9.alloc (.cells #[.int .u32 4, .int .u32 961, .int .u32 3] 24)
      have b7 := b9.fr (S := fun _ => False) (Fr.of_below bl9) (fun _ _ _ => id)
      have hk3 : k = 0 ∨ k = 1 ∨ k = 2 := by omega
      rcases hk3 with rfl | rfl | rfl
      · have q0 : (w8.alloc (.cells #[.int .u32 4, .int .u32 961, .int .u32 3] 24)).cell? ⟨Z, 0, none⟩ = some (w3f 1 0 2 0) := z7.row.cell (i := 0) (by omega)
        have f0 := z7.row.frozen 0
        obtain ⟨p1, p2, p3, p4⟩ := set3 (a2 := 4 + yv % 1000000) (b2 := 0) (c2 := 2) o7 z7 lZ 0 (4 + yv % 1000000) (fun j hj => by
          have : j = 0 ∨ j = 1 ∨ j = 2 := by omega
          rcases this with rfl | rfl | rfl <;> rfl)
        have p5 := p3 x7
        have p6 := p4 b7
        have hbad := Lib.hid (bad0 yv y0)
        clear o9 x9 z9 b9 o7 x7 z7 b7 bl9
        go_wp2_with fail
        go_meet
        exact ⟨rfl, p1, p5, p6, _, _, _, hbad.out, p2⟩
      · have q0 : (w8.alloc (.cells #[.int .u32 4, .int .u32 961, .int .u32 3] 24)).cell? ⟨Z, 1, none⟩ = some (w3f 1 0 2 1) := z7.row.cell (i := 1) (by omega)
        have f0 := z7.row.frozen 1
        obtain ⟨p1, p2, p3, p4⟩ := set3 (a2 := 1) (b2 := 961 + yv % 1000000) (c2 := 2) o7 z7 lZ 1 (961 + yv % 1000000) (fun j hj => by
          have : j = 0 ∨ j = 1 ∨ j = 2 := by omega
          rcases this with rfl | rfl | rfl <;> rfl)
        have p5 := p3 x7
        have p6 := p4 b7
        have hbad := Lib.hid (bad1 yv y0)
        clear o9 x9 z9 b9 o7 x7 z7 b7 bl9
        go_wp2_with fail
        go_meet
        exact ⟨rfl, p1, p5, p6, _, _, _, hbad.out, p2⟩
      · have q0 : (w8.alloc (.cells #[.int .u32 4, .int .u32 961, .int .u32 3] 24)).cell? ⟨Z, 2, none⟩ = some (w3f 1 0 2 2) := z7.row.cell (i := 2) (by omega)
        have f0 := z7.row.frozen 2
        obtain ⟨p1, p2, p3, p4⟩ := set3 (a2 := 1) (b2 := 0) (c2 := 3 + yv % 1000000) o7 z7 lZ 2 (3 + yv % 1000000) (fun j hj => by
          have : j = 0 ∨ j = 1 ∨ j = 2 := by omega
          rcases this with rfl | rfl | rfl <;> rfl)
        have p5 := p3 x7
        have p6 := p4 b7
        have hbad := Lib.hid (bad2 yv y0)
        clear o9 x9 z9 b9 o7 x7 z7 b7 bl9
        go_wp2_with fail
        go_meet
        exact ⟨rfl, p1, p5, p6, _, _, _, hbad.out, p2⟩
    case rest =>
      clear o9 x9 z9 b9 y0 y1
      obtain ⟨rfl, o8, x8, b8, a, b, c, hbad, z8⟩ := hcut
      have HBad := Lib.hid hbad
      obtain ⟨a0, a1, b0, b1, c0, c1, _⟩ := hbad
      have HA := Lib.hid (And.intro a0 a1)
      have HB2 := Lib.hid (And.intro b0 b1)
      have HC2 := Lib.hid (And.intro c0 c1)
      clear a0 a1 b0 b1 c0 c1
      have G0 : Gb (S00 C D) := gbM false false false none C D (by decide) (by decide) (by decide)
      have G1 : Gb ⟨a, 0, 0, false, false, false, none, 0, C, D⟩ := gbM _ _ _ _ _ _ (by decide) HA.out (by decide)
      have G2 : Gb ⟨a, b, 0, false, false, false, none, 0, C, D⟩ := gbM _ _ _ _ _ _ (by decide) HA.out HB2.out
      have G3 : Gb ⟨a, b, c, true, false, false, none, 1, C, D⟩ := gbM _ _ _ _ _ _ (by decide) HA.out HB2.out
      have G4 : Gb ⟨a, b, c, false, true, true, none, 1, C, D⟩ := gbM _ _ _ _ _ _ (by decide) HA.out HB2.out
      have G5 : Gb ⟨a, b, c, false, false, true, none, 1, C, D⟩ := gbM _ _ _ _ _ _ (by decide) HA.out HB2.out
      have H1 : Hid (wrD 0 a 0 (S00 C D) = ⟨a, 0, 0, false, false, false, none, 0, C, D⟩) := Lib.hid rfl
      have H2 : Hid (wrD 1 b 0 ⟨a, 0, 0, false, false, false, none, 0, C, D⟩ = ⟨a, b, 0, false, false, false, none, 0, C, D⟩) := Lib.hid rfl
      have H3 : Hid (wrD 2 c 0 ⟨a, b, 0, false, false, false, none, 0, C, D⟩ = ⟨a, b, c, true, false, false, some (32, 0), 1, C, D⟩) := Lib.hid rfl
      have H4 := Lib.hid (er_fire (s := 1) (C := C) (D := D) HBad.out)
      have H5 : Hid (wrD 3 2 0 ⟨a, b, c, false, true, true, none, 1, C, D⟩ = ⟨a, b, c, false, false, true, none, 1, C, D⟩) := Lib.hid rfl
      have H6 : Hid (wrD 3 4 0 ⟨a, b, c, false, false, true, none, 1, C, D⟩ = ⟨a, b, c, false, false, false, none, 1, C, D⟩) := Lib.hid rfl
      have hCb := Lib.hid o8.dm.mm.bC
      have q0 : wc.cell? ⟨Z, 0, none⟩ = some (.int .u32 a) := z8.row.cell (i := 0) (by omega)
      clear hk
      go_wp2_with fail
      with_reducible refine (write_to o8 0 0 a (by omega) (by omega) rfl H1.out G0 HA.out.1 HA.out.2 (by omega) (by omega)).mono ?_
      rintro e w10 ⟨rfl, v10, o10, c10⟩
      have x10 := x8.step c10
      have z10 := z8.step c10
      have b10 := b8.step c10
      have q1 : w10.cell? ⟨Z, 1, none⟩ = some (.int .u32 b) := z10.row.cell (i := 1) (by omega)
      clear o8 x8 z8 b8 c10 q0
      go_wp2_with fail
      with_reducible refine (write_to o10 1 4 b (by omega) (by omega) rfl H2.out G1 HB2.out.1 HB2.out.2 (by omega) (by omega)).mono ?_
      rintro e w11 ⟨rfl, v11, o11, c11⟩
      have x11 := x10.step c11
      have z11 := z10.step c11
      have b11 := b10.step c11
      have q2 : w11.cell? ⟨Z, 2, none⟩ = some (.int .u32 c) := z11.row.cell (i := 2) (by omega)
      clear o10 x10 z10 b10 c11 q1
      go_wp2_with fail
      with_reducible refine (write_to o11 2 8 c (by omega) (by omega) rfl H3.out G2 HC2.out.1 HC2.out.2 (by omega) (by omega)).mono ?_
      rintro e w12 ⟨rfl, v12, o12, c12⟩
      have x12 := x11.step c12
      have b12 := b11.step c12
      clear o11 x11 z11 b11 c12 q2
      go_wp2_with fail
      with_reducible refine (read_to o12 3 12 (by omega) (by omega) rfl (u := 1) rfl).mono ?_
      rintro e w13 ⟨rfl, rfl⟩
      go_wp2_with fail
      with_reducible refine (take_yes o12 32 rfl (by omega) rfl).mono ?_
      rintro e w14 ⟨rfl, v14, o14, c14⟩
      have bl14 : Below w14.heap.size w14 (w14.alloc (.cells #[.int .i64 32, .int .i64 5, .int .i64 0] 42)) := (Below.refl _ _).alloc (Nat.le_refl _) _
      have x15 := (x12.step c14).alloc (.cells #[.int .i64 32, .int .i64 5, .int .i64 0] 42)
      have b15 := (b12.step c14).keep (Fr.of_below (S := fun _ => False) bl14) (fun _ _ _ => id)
      have o15 := o14.below bl14
      clear o12 x12 b12 o14 c14 bl14
      go_wp2_with fail
      generalize w14.alloc (.cells #[.int .i64 32, .int .i64 5, .int .i64 0] 42) = w15 at o15 x15 b15 ⊢
      with_reducible refine (fire_to o15 32 (by omega) H4.out G3).mono ?_
      rintro e w16 ⟨rfl, v16, o16, c16⟩
      have x16 := x15.step c16
      have b16 := b15.step c16
      clear o15 x15 b15 c16
      go_wp2_with fail
      with_reducible refine (read_to o16 3 12 (by omega) (by omega) rfl (u := 6) rfl).mono ?_
      rintro e w17 ⟨rfl, rfl⟩
      go_wp2_with fail
      with_reducible refine (kbytes_all o16.dm.mm).mono ?_
      rintro e w17 ⟨Y, hY, rfl, hr17, hf17⟩
      have o17 := o16.no hf17
      have y17 := o16.rw hr17 hY
      have x17 := x16.keep hf17 id
      have b17 : Asb w17 x g O v16 u5 256 D := b16.keep hf17 (fun _ _ _ => id)
      clear o16 x16 b16 hY hr17 hf17
      have od : One w w17.drew x g r y O 1 4 5 v16 ⟨a, b, c, false, true, true, none, 1, C, D⟩ := o17.below ((Below.refl _ _).drew)
      have xd : Asd w17.drew x g O v16 X 5 1024 (fun i => .int .u8 (C (0 + i))) := ⟨x17.row, x17.no⟩
      have yd : Asd w17.drew x g O v16 Y 5 1024 (fun i => .int .u8 (C (0 + i))) := ⟨y17.row, y17.no⟩
      have bd : Asb w17.drew x g O v16 u5 256 D := b17.keep ((Fr.refl (fun _ => False) w17).drewN 1) (fun _ _ _ => id)
      obtain ⟨sC, hsC⟩ : ∃ s, strN 1024 (fun i => C (0 + i)) = s := ⟨_, rfl⟩
      obtain ⟨sD, hsD⟩ : ∃ s, strN 256 D = s := ⟨_, rfl⟩
      have HSC := Lib.hid hsC
      have HSD := Lib.hid hsD
      have HCB : Hid (∀ i, 0 ≤ (fun i => C (0 + i)) i ∧ (fun i => C (0 + i)) i ≤ 255) := Lib.hid (fun i => hCb.out (0 + i))
      have t0 : (convert 28 9 u5).run Try.prog w17.drew = .ok (.string sD) w17.drew := ByAt.str bd HSD.out
      have t1 : (convert 28 9 (.slice (some ⟨Y, 0, none⟩) 1024 1024)).run Try.prog w17.drew = .ok (.string sC) w17.drew := yd.str HCB.out HSC.out
      have t2 : (convert 28 9 (.slice (some ⟨X, 0, none⟩) 1024 1024)).run Try.prog w17.drew = .ok (.string sC) w17.drew := xd.str HCB.out HSC.out
      clear hsC hsD o17 x17 y17 b17
      go_wp2_with fail
      refine wp_region_noPanic ?_
      refine wp_region_held_drew (S := fun w' => (convert 28 9 u5).run Try.prog w' = .ok (.string sD) w' ∧ (convert 28 9 (.slice (some ⟨Y, 0, none⟩) 1024 1024)).run Try.prog w' = .ok (.string sC) w' ∧ (convert 28 9 (.slice (some ⟨X, 0, none⟩) 1024 1024)).run Try.prog w' = .ok (.string sC) w') (by kernel_rfl) ⟨t0, t1, t2⟩ (fun hH0 => ?_)
      refine take_e (i := 0) (some 114) (v := ?_) rfl rfl (by kernel_rfl) (by kernel_rfl) (by kernel_rfl) (fun _ _ _ h => h) (Or.inl ⟨by rfl, ?_⟩) hH0 ?_
      rotate_left
      · (intro w hSw; (try dsimp only at hSw); go_simp; try with_reducible rfl)
      try simp only [Act.put, List.setIfInBounds_toArray, List.set_cons_zero, List.set_cons_succ]
      refine take_e (i := 1) (some 115) (v := ?_) rfl rfl (by kernel_rfl) (by kernel_rfl) (by kernel_rfl) (fun _ _ _ h => h) (Or.inl ⟨by rfl, ?_⟩) hH0 ?_
      rotate_left
      · (intro w hSw; (try dsimp only at hSw); go_simp; try with_reducible rfl)
      try simp only [Act.put, List.setIfInBounds_toArray, List.set_cons_zero, List.set_cons_succ]
      refine take_e (i := 2) (some 116) (v := ?_) rfl rfl (by kernel_rfl) (by kernel_rfl) (by kernel_rfl) (fun _ _ _ h => h) (Or.inl ⟨by rfl, ?_⟩) hH0 ?_
      rotate_left
      · (intro w hSw; (try dsimp only at hSw); go_simp; try with_reducible rfl)
      try simp only [Act.put, List.setIfInBounds_toArray, List.set_cons_zero, List.set_cons_succ]
      refine take_e (i := 3) (some 117) (v := ?_) rfl rfl (by kernel_rfl) (by kernel_rfl) (by kernel_rfl) (fun _ _ _ h => h) (Or.inl ⟨by rfl, ?_⟩) hH0 ?_
      rotate_left
      · (intro w hSw; (try dsimp only at hSw); go_simp; try with_reducible rfl)
      try simp only [Act.put, List.setIfInBounds_toArray, List.set_cons_zero, List.set_cons_succ]
      refine take_e (i := 4) (some 118) (v := ?_) rfl rfl (by kernel_rfl) (by kernel_rfl) (by kernel_rfl) (fun _ _ _ h => h) (Or.inl ⟨by rfl, ?_⟩) hH0 ?_
      rotate_left
      · (intro w hSw; (try dsimp only at hSw); go_simp; try with_reducible rfl)
      try simp only [Act.put, List.setIfInBounds_toArray, List.set_cons_zero, List.set_cons_succ]
      refine take_e (i := 5) (some 119) (v := ?_) rfl rfl (by kernel_rfl) (by kernel_rfl) (by kernel_rfl) (fun _ _ _ h => h) (Or.inl ⟨by rfl, ?_⟩) hH0 ?_
      rotate_left
      · (intro w hSw; (try dsimp only at hSw); go_simp; try with_reducible rfl)
      try simp only [Act.put, List.setIfInBounds_toArray, List.set_cons_zero, List.set_cons_succ]
      refine take_e (i := 6) (some 120) (v := ?_) rfl rfl (by kernel_rfl) (by kernel_rfl) (by kernel_rfl) (fun _ _ _ h => h) (Or.inl ⟨by rfl, ?_⟩) hH0 ?_
      rotate_left
      · (intro w hSw; (try dsimp only at hSw); go_simp; try with_reducible rfl)
      try simp only [Act.put, List.setIfInBounds_toArray, List.set_cons_zero, List.set_cons_succ]
      refine take_e (i := 7) (some 121) (v := ?_) rfl rfl (by kernel_rfl) (by kernel_rfl) (by kernel_rfl) (fun _ _ _ h => h) (Or.inl ⟨by rfl, ?_⟩) hH0 ?_
      rotate_left
      · (intro w hSw; (try dsimp only at hSw); go_simp; try with_reducible rfl)
      try simp only [Act.put, List.setIfInBounds_toArray, List.set_cons_zero, List.set_cons_succ]
      refine take_e (i := 8) (some 122) (v := ?_) rfl rfl (by kernel_rfl) (by kernel_rfl) (by kernel_rfl) (fun _ _ _ h => h) (Or.inl ⟨by rfl, ?_⟩) hH0 ?_
      rotate_left
      · (intro w hSw; (try dsimp only at hSw); go_simp; try with_reducible rfl)
      try simp only [Act.put, List.setIfInBounds_toArray, List.set_cons_zero, List.set_cons_succ]
      refine take_e (i := 9) (some 123) (v := ?_) rfl rfl (by kernel_rfl) (by kernel_rfl) (by kernel_rfl) (fun _ _ _ h => h) (Or.inl ⟨by rfl, ?_⟩) hH0 ?_
      rotate_left
      · (intro w hSw; (try dsimp only at hSw); go_simp; try with_reducible rfl)
      try simp only [Act.put, List.setIfInBounds_toArray, List.set_cons_zero, List.set_cons_succ]
      refine take_e (i := 10) (some 124) (v := ?_) rfl rfl (by kernel_rfl) (by kernel_rfl) (by kernel_rfl) (fun _ _ _ h => h) (Or.inl ⟨by rfl, ?_⟩) hH0 ?_
      rotate_left
      · (intro w hSw; (try dsimp only at hSw); go_simp; try with_reducible rfl)
      try simp only [Act.put, List.setIfInBounds_toArray, List.set_cons_zero, List.set_cons_succ]
      refine take_e (i := 13) (some 127) (v := ?_) rfl rfl (by kernel_rfl) (by kernel_rfl) (by kernel_rfl) (fun _ _ _ h => h) (Or.inl ⟨by rfl, ?_⟩) hH0 ?_
      rotate_left
      · (intro w hSw; (try dsimp only at hSw); go_simp; try with_reducible rfl)
      try simp only [Act.put, List.setIfInBounds_toArray, List.set_cons_zero, List.set_cons_succ]
      refine take_e (i := 14) (some 128) (v := ?_) rfl rfl (by kernel_rfl) (by kernel_rfl) (by kernel_rfl) (fun _ _ _ h => h) (Or.inl ⟨by rfl, ?_⟩) hH0 ?_
      rotate_left
      · (intro w hSw; (try dsimp only at hSw); go_simp; try with_reducible rfl)
      try simp only [Act.put, List.setIfInBounds_toArray, List.set_cons_zero, List.set_cons_succ]
      refine wpAnyH_ready (rs := [11]) (by kernel_rfl) (by simp) ?_
      refine AllReadyH.cons rfl (fun K hK => ?_) AllReadyH.nil
      go_simp
      go_at_call 18
      with_reducible refine (dbytes_any od.dm (by omega)).mono ?_
      rintro e w18 ⟨u8, rfl, hB8, hF8⟩
      have o18 := od.no hF8
      have xx18 := xd.keep hF8 id
      have yy18 := yd.keep hF8 id
      have bb18 : Asb w18 x g O v16 u5 256 D := bd.keep hF8 (fun _ _ _ => id)
      have t18a : (convert 28 9 u5).run Try.prog w18 = .ok (.string sD) w18 := ByAt.str bb18 HSD.out
      have t18b : (convert 28 9 (.slice (some ⟨Y, 0, none⟩) 1024 1024)).run Try.prog w18 = .ok (.string sC) w18 := yy18.str HCB.out HSC.out
      have t18c : (convert 28 9 (.slice (some ⟨X, 0, none⟩) 1024 1024)).run Try.prog w18 = .ok (.string sC) w18 := xx18.str HCB.out HSC.out
      have r8 : (convert 28 9 u8).run Try.prog w18 = .ok (.string sD) w18 := ByAt.str hB8 HSD.out
      go_wp2_with fail
      refine hK.out _ _ (⟨t18a, t18b, t18c⟩) (fun hH1 => ?_)
      clear hK K hH0
      try simp only [Act.put, List.setIfInBounds_toArray, List.set_cons_zero, List.set_cons_succ]
      refine wpAnyH_ready (rs := [12]) (by kernel_rfl) (by simp) ?_
      refine AllReadyH.cons rfl (fun K hK => ?_) AllReadyH.nil
      go_simp
      refine hK.out _ _ (⟨t18a, t18b, t18c⟩) (fun hH2 => ?_)
      clear hK K hH1
      try simp only [Act.put, List.setIfInBounds_toArray, List.set_cons_zero, List.set_cons_succ]
      clear r8 hB8 hF8 od xd yd bd t0 t1 t2
      refine take_e (i := 15) (some 129) (v := ?_) rfl rfl (by kernel_rfl) (by kernel_rfl) (by kernel_rfl) (fun _ _ _ h => h) (Or.inl ⟨by rfl, ?_⟩) hH2 ?_
      rotate_left
      · (intro w hSw; (try dsimp only at hSw); go_simp; try with_reducible rfl)
      try simp only [Act.put, List.setIfInBounds_toArray, List.set_cons_zero, List.set_cons_succ]
      refine take_e (i := 16) (some 130) (v := ?_) rfl rfl (by kernel_rfl) (by kernel_rfl) (by kernel_rfl) (fun _ _ _ h => h) (Or.inl ⟨by rfl, ?_⟩) hH2 ?_
      rotate_left
      · (intro w hSw; (try dsimp only at hSw); go_simp; try with_reducible rfl)
      try simp only [Act.put, List.setIfInBounds_toArray, List.set_cons_zero, List.set_cons_succ]
      refine take_e (i := 17) (some 131) (v := ?_) rfl rfl (by kernel_rfl) (by kernel_rfl) (by kernel_rfl) (fun _ _ _ h => h) (Or.inl ⟨by rfl, ?_⟩) hH2 ?_
      rotate_left
      · (intro w hSw; (try dsimp only at hSw); go_simp; try with_reducible rfl)
      try simp only [Act.put, List.setIfInBounds_toArray, List.set_cons_zero, List.set_cons_succ]
      refine take_e (i := 18) (some 132) (v := ?_) rfl rfl (by kernel_rfl) (by kernel_rfl) (by kernel_rfl) (fun _ _ _ h => h) (Or.inl ⟨by rfl, ?_⟩) hH2 ?_
      rotate_left
      · (intro w hSw; (try dsimp only at hSw); go_simp; try with_reducible rfl)
      try simp only [Act.put, List.setIfInBounds_toArray, List.set_cons_zero, List.set_cons_succ]
      refine take_e (i := 19) (some 133) (v := ?_) rfl rfl (by kernel_rfl) (by kernel_rfl) (by kernel_rfl) (fun _ _ _ h => h) (Or.inl ⟨by rfl, ?_⟩) hH2 ?_
      rotate_left
      · (intro w hSw; (try dsimp only at hSw); go_simp; try with_reducible rfl)
      try simp only [Act.put, List.setIfInBounds_toArray, List.set_cons_zero, List.set_cons_succ]
      refine take_e (i := 20) (some 134) (v := ?_) rfl rfl (by kernel_rfl) (by kernel_rfl) (by kernel_rfl) (fun _ _ _ h => h) (Or.inl ⟨by rfl, ?_⟩) hH2 ?_
      rotate_left
      · (intro w hSw; (try dsimp only at hSw); go_simp; try with_reducible rfl)
      try simp only [Act.put, List.setIfInBounds_toArray, List.set_cons_zero, List.set_cons_succ]
      refine take_e (i := 21) (some 135) (v := ?_) rfl rfl (by kernel_rfl) (by kernel_rfl) (by kernel_rfl) (fun _ _ _ h => h) (Or.inl ⟨by rfl, ?_⟩) hH2 ?_
      rotate_left
      · (intro w hSw; (try dsimp only at hSw); go_simp; try with_reducible rfl)
      try simp only [Act.put, List.setIfInBounds_toArray, List.set_cons_zero, List.set_cons_succ]
      refine take_e (i := 22) (some 136) (v := ?_) rfl rfl (by kernel_rfl) (by kernel_rfl) (by kernel_rfl) (fun _ _ _ h => h) (Or.inl ⟨by rfl, ?_⟩) hH2 ?_
      rotate_left
      · (intro w hSw; (try dsimp only at hSw); go_simp; try with_reducible rfl)
      try simp only [Act.put, List.setIfInBounds_toArray, List.set_cons_zero, List.set_cons_succ]
      refine take_e (i := 23) (some 137) (v := ?_) rfl rfl (by kernel_rfl) (by kernel_rfl) (by kernel_rfl) (fun _ _ _ h => h) (Or.inl ⟨by rfl, ?_⟩) hH2 ?_
      rotate_left
      · (intro w hSw; (try dsimp only at hSw); go_simp; try with_reducible rfl)
      try simp only [Act.put, List.setIfInBounds_toArray, List.set_cons_zero, List.set_cons_succ]
      refine take_e (i := 24) (some 138) (v := ?_) rfl rfl (by kernel_rfl) (by kernel_rfl) (by kernel_rfl) (fun _ _ _ h => h) (Or.inl ⟨by rfl, ?_⟩) hH2 ?_
      rotate_left
      · (intro w hSw; (try dsimp only at hSw); go_simp; try with_reducible rfl)
      try simp only [Act.put, List.setIfInBounds_toArray, List.set_cons_zero, List.set_cons_succ]
      refine take_e (i := 25) (some 139) (v := ?_) rfl rfl (by kernel_rfl) (by kernel_rfl) (by kernel_rfl) (fun _ _ _ h => h) (Or.inl ⟨by rfl, ?_⟩) hH2 ?_
      rotate_left
      · (intro w hSw; (try dsimp only at hSw); go_simp; try with_reducible rfl)
      try simp only [Act.put, List.setIfInBounds_toArray, List.set_cons_zero, List.set_cons_succ]
      refine wpAnyH_ready (rs := [26]) (by kernel_rfl) (by simp) ?_
      refine AllReadyH.cons rfl (fun K hK => ?_) AllReadyH.nil
      go_simp
      go_at_call 14
      with_reducible refine (write_to o18 3 12 2 (by omega) (by omega) rfl H5.out G4 (by omega) (by omega) (by omega) (by omega)).mono ?_
      rintro e w19 ⟨rfl, v19, o19, c19⟩
      have xx19 := xx18.step c19
      have yy19 := yy18.step c19
      have bb19 := bb18.step c19
      have t19a : (convert 28 9 u5).run Try.prog w19 = .ok (.string sD) w19 := ByAt.str bb19 HSD.out
      have t19b : (convert 28 9 (.slice (some ⟨Y, 0, none⟩) 1024 1024)).run Try.prog w19 = .ok (.string sC) w19 := yy19.str HCB.out HSC.out
      have t19c : (convert 28 9 (.slice (some ⟨X, 0, none⟩) 1024 1024)).run Try.prog w19 = .ok (.string sC) w19 := xx19.str HCB.out HSC.out
      go_wp2_with fail
      refine hK.out _ _ (⟨t19a, t19b, t19c⟩) (fun hH3 => ?_)
      clear hK K hH2
      try simp only [Act.put, List.setIfInBounds_toArray, List.set_cons_zero, List.set_cons_succ]
      refine take_e (i := 27) (some 141) (v := ?_) rfl rfl (by kernel_rfl) (by kernel_rfl) (by kernel_rfl) (fun _ _ _ h => h) (Or.inl ⟨by rfl, ?_⟩) hH3 ?_
      rotate_left
      · (intro w hSw; (try dsimp only at hSw); go_simp; try with_reducible rfl)
      try simp only [Act.put, List.setIfInBounds_toArray, List.set_cons_zero, List.set_cons_succ]
      refine take_e (i := 28) (some 142) (v := ?_) rfl rfl (by kernel_rfl) (by kernel_rfl) (by kernel_rfl) (fun _ _ _ h => h) (Or.inl ⟨by rfl, ?_⟩) hH3 ?_
      rotate_left
      · (intro w hSw; (try dsimp only at hSw); go_simp; try with_reducible rfl)
      try simp only [Act.put, List.setIfInBounds_toArray, List.set_cons_zero, List.set_cons_succ]
      refine take_e (i := 29) (some 143) (v := ?_) rfl rfl (by kernel_rfl) (by kernel_rfl) (by kernel_rfl) (fun _ _ _ h => h) (Or.inl ⟨by rfl, ?_⟩) hH3 ?_
      rotate_left
      · (intro w hSw; (try dsimp only at hSw); go_simp; try with_reducible rfl)
      try simp only [Act.put, List.setIfInBounds_toArray, List.set_cons_zero, List.set_cons_succ]
      refine wpAnyH_ready (rs := [30]) (by kernel_rfl) (by simp) ?_
      refine AllReadyH.cons rfl (fun K hK => ?_) AllReadyH.nil
      go_simp
      go_at_call 21
      with_reducible refine (line_to o19 (b := true) rfl).mono ?_
      rintro e w20 ⟨rfl, rfl⟩
      go_wp2_with fail
      refine hK.out _ _ (⟨t19a, t19b, t19c⟩) (fun hH4 => ?_)
      clear hK K hH3
      try simp only [Act.put, List.setIfInBounds_toArray, List.set_cons_zero, List.set_cons_succ]
      refine take_e (i := 31) (some 145) (v := ?_) rfl rfl (by kernel_rfl) (by kernel_rfl) (by kernel_rfl) (fun _ _ _ h => h) (Or.inl ⟨by rfl, ?_⟩) hH4 ?_
      rotate_left
      · (intro w hSw; (try dsimp only at hSw); go_simp; try with_reducible rfl)
      try simp only [Act.put, List.setIfInBounds_toArray, List.set_cons_zero, List.set_cons_succ]
      refine take_e (i := 32) (some 146) (v := ?_) rfl rfl (by kernel_rfl) (by kernel_rfl) (by kernel_rfl) (fun _ _ _ h => h) (Or.inl ⟨by rfl, ?_⟩) hH4 ?_
      rotate_left
      · (intro w hSw; (try dsimp only at hSw); go_simp; try with_reducible rfl)
      try simp only [Act.put, List.setIfInBounds_toArray, List.set_cons_zero, List.set_cons_succ]
      refine take_e (i := 33) (some 147) (v := ?_) rfl rfl (by kernel_rfl) (by kernel_rfl) (by kernel_rfl) (fun _ _ _ h => h) (Or.inl ⟨by rfl, ?_⟩) hH4 ?_
      rotate_left
      · (intro w hSw; (try dsimp only at hSw); go_simp; try with_reducible rfl)
      try simp only [Act.put, List.setIfInBounds_toArray, List.set_cons_zero, List.set_cons_succ]
      refine wpAnyH_ready (rs := [34]) (by kernel_rfl) (by simp) ?_
      refine AllReadyH.cons rfl (fun K hK => ?_) AllReadyH.nil
      go_simp
      go_at_call 14
      with_reducible refine (write_to o19 3 12 4 (by omega) (by omega) rfl H6.out G5 (by omega) (by omega) (by omega) (by omega)).mono ?_
      rintro e w20 ⟨rfl, v20, o20, c20⟩
      have xx20 := xx19.step c20
      have yy20 := yy19.step c20
      have bb20 := bb19.step c20
      have t20a : (convert 28 9 u5).run Try.prog w20 = .ok (.string sD) w20 := ByAt.str bb20 HSD.out
      have t20b : (convert 28 9 (.slice (some ⟨Y, 0, none⟩) 1024 1024)).run Try.prog w20 = .ok (.string sC) w20 := yy20.str HCB.out HSC.out
      have t20c : (convert 28 9 (.slice (some ⟨X, 0, none⟩) 1024 1024)).run Try.prog w20 = .ok (.string sC) w20 := xx20.str HCB.out HSC.out
      go_wp2_with fail
      refine hK.out _ _ (⟨t20a, t20b, t20c⟩) (fun hH5 => ?_)
      clear hK K hH4
      try simp only [Act.put, List.setIfInBounds_toArray, List.set_cons_zero, List.set_cons_succ]
      refine take_e (i := 35) (some 149) (v := ?_) rfl rfl (by kernel_rfl) (by kernel_rfl) (by kernel_rfl) (fun _ _ _ h => h) (Or.inl ⟨by rfl, ?_⟩) hH5 ?_
      rotate_left
      · (intro w hSw; (try dsimp only at hSw); go_simp; try with_reducible rfl)
      try simp only [Act.put, List.setIfInBounds_toArray, List.set_cons_zero, List.set_cons_succ]
      refine take_e (i := 36) (some 150) (v := ?_) rfl rfl (by kernel_rfl) (by kernel_rfl) (by kernel_rfl) (fun _ _ _ h => h) (Or.inl ⟨by rfl, ?_⟩) hH5 ?_
      rotate_left
      · (intro w hSw; (try dsimp only at hSw); go_simp; try with_reducible rfl)
      try simp only [Act.put, List.setIfInBounds_toArray, List.set_cons_zero, List.set_cons_succ]
      refine take_e (i := 37) (some 151) (v := ?_) rfl rfl (by kernel_rfl) (by kernel_rfl) (by kernel_rfl) (fun _ _ _ h => h) (Or.inl ⟨by rfl, ?_⟩) hH5 ?_
      rotate_left
      · (intro w hSw; (try dsimp only at hSw); go_simp; try with_reducible rfl)
      try simp only [Act.put, List.setIfInBounds_toArray, List.set_cons_zero, List.set_cons_succ]
      refine wpAnyH_ready (rs := [38]) (by kernel_rfl) (by simp) ?_
      refine AllReadyH.cons rfl (fun K hK => ?_) AllReadyH.nil
      go_simp
      go_at_call 21
      with_reducible refine (line_to o20 (b := false) rfl).mono ?_
      rintro e w21 ⟨rfl, rfl⟩
      go_wp2_with fail
      refine hK.out _ _ (⟨t20a, t20b, t20c⟩) (fun hH6 => ?_)
      clear hK K hH5
      try simp only [Act.put, List.setIfInBounds_toArray, List.set_cons_zero, List.set_cons_succ]
      refine take_e (i := 39) (some 153) (v := ?_) rfl rfl (by kernel_rfl) (by kernel_rfl) (by kernel_rfl) (fun _ _ _ h => h) (Or.inl ⟨by rfl, ?_⟩) hH6 ?_
      rotate_left
      · (intro w hSw; (try dsimp only at hSw); go_simp; try with_reducible rfl)
      try simp only [Act.put, List.setIfInBounds_toArray, List.set_cons_zero, List.set_cons_succ]
      refine take_e (i := 40) (some 154) (v := ?_) rfl rfl (by kernel_rfl) (by kernel_rfl) (by kernel_rfl) (fun _ _ _ h => h) (Or.inl ⟨by rfl, ?_⟩) hH6 ?_
      rotate_left
      · (intro w hSw; (try dsimp only at hSw); go_simp; try with_reducible rfl)
      try simp only [Act.put, List.setIfInBounds_toArray, List.set_cons_zero, List.set_cons_succ]
      refine take_e (i := 41) (some 155) (v := ?_) rfl rfl (by kernel_rfl) (by kernel_rfl) (by kernel_rfl) (fun _ _ _ h => h) (Or.inl ⟨by rfl, ?_⟩) hH6 ?_
      rotate_left
      · (intro w hSw; (try dsimp only at hSw); go_simp; try with_reducible rfl)
      try simp only [Act.put, List.setIfInBounds_toArray, List.set_cons_zero, List.set_cons_succ]
      refine wpAnyH_ready (rs := [42]) (by kernel_rfl) (by simp) ?_
      refine AllReadyH.cons rfl (fun K hK => ?_) AllReadyH.nil
      go_simp
      go_at_call 12
      with_reducible refine (known_any w20).mono ?_
      rintro e w21 ⟨rfl, hb21⟩
      have hbl := (o20.below hb21).bl
      have xx21 : Asd w21 x g O v20 X 5 1024 (fun i => .int .u8 (C (0 + i))) := xx20.keep (Fr.of_below (S := fun _ => False) hb21) id
      have yy21 : Asd w21 x g O v20 Y 5 1024 (fun i => .int .u8 (C (0 + i))) := yy20.keep (Fr.of_below (S := fun _ => False) hb21) id
      have bb21 : Asb w21 x g O v20 u5 256 D := bb20.keep (Fr.of_below (S := fun _ => False) hb21) (fun _ _ _ => id)
      have t21a : (convert 28 9 u5).run Try.prog w21 = .ok (.string sD) w21 := ByAt.str bb21 HSD.out
      have t21b : (convert 28 9 (.slice (some ⟨Y, 0, none⟩) 1024 1024)).run Try.prog w21 = .ok (.string sC) w21 := yy21.str HCB.out HSC.out
      have t21c : (convert 28 9 (.slice (some ⟨X, 0, none⟩) 1024 1024)).run Try.prog w21 = .ok (.string sC) w21 := xx21.str HCB.out HSC.out
      go_wp2_with fail
      refine hK.out _ _ (⟨t21a, t21b, t21c⟩) (fun hH7 => ?_)
      clear hK K hH6
      try simp only [Act.put, List.setIfInBounds_toArray, List.set_cons_zero, List.set_cons_succ]
      refine take_e (i := 43) (some 157) (v := ?_) rfl rfl (by kernel_rfl) (by kernel_rfl) (by kernel_rfl) (fun _ _ _ h => h) (Or.inl ⟨by rfl, ?_⟩) hH7 ?_
      rotate_left
      · (intro w hSw; (try dsimp only at hSw); go_simp; try with_reducible rfl)
      try simp only [Act.put, List.setIfInBounds_toArray, List.set_cons_zero, List.set_cons_succ]
      refine take_e (i := 44) (some 6) (v := ?_) rfl rfl (by kernel_rfl) (by kernel_rfl) (by kernel_rfl) (fun _ _ _ h => h) (Or.inl ⟨by rfl, ?_⟩) hH7 ?_
      rotate_left
      · (intro w hSw; (try dsimp only at hSw); go_simp; try with_reducible rfl)
      try simp only [Act.put, List.setIfInBounds_toArray, List.set_cons_zero, List.set_cons_succ]
      refine wpAnyH_done (by kernel_rfl) ?_ _
      refine NoPanic.normal ?_
      go_wp2
      go_ret
      exact ⟨rfl, hbl⟩
end Go.Proofs.Ytifhnidcdfpabaa
