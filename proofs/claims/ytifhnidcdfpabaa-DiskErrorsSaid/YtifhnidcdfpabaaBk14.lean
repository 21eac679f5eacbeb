/-
  Chapter 14: the walk of DiskBack.
-/
import Derived.Test.YtifhnidcdfpabaaEr14
namespace Go.Proofs.Ytifhnidcdfpabaa
open Go.RowKit
set_option linter.unusedVariables false
set_option linter.unusedSimpArgs false
/-- memory behind Put; the disk behind a write; memory behind a read -/
def bC1 (X m : Nat) (f : Nat → Int) : Nat → Int := putC Z0 X m f
def bD0 : Nat → Int := imD 256 Z0
def bD1 (s X m : Nat) (f : Nat → Int) : Nat → Int := putC bD0 (s * 64) 64 (fun i => bC1 X m f (X + i))
def bC2 (s X Y m : Nat) (f : Nat → Int) : Nat → Int := putC (bC1 X m f) Y 64 (fun i => bD1 s X m f (s * 64 + i))
/-- the disk behind j rounds -/
def bkT (s X Y m : Nat) (f : Nat → Int) : Nat → DS
  | 0 => S00 (bC1 X m f) bD0
  | 1 => ⟨s, X, 2, false, true, false, none, 1, bC1 X m f, bD1 s X m f⟩
  | _ => ⟨s, Y, 1, false, true, false, none, 2, bC2 s X Y m f, bD1 s X m f⟩
theorem bD0_z (i : Nat) : bD0 i = 0 := by unfold bD0 imD Z0; split <;> rfl
theorem bD1_else {s X m : Nat} {f : Nat → Int} (i : Nat) (h : i / 64 ≠ s) : bD1 s X m f i = 0 := by
  unfold bD1 putC
  rw [if_neg (by omega)]
  exact bD0_z i
theorem bD1_at (s X m : Nat) (f : Nat → Int) (i : Nat) (h : i < 64) : bD1 s X m f (s * 64 + i) = bC1 X m f (X + i) := by
  unfold bD1 putC
  rw [if_pos (by omega), Nat.add_sub_cancel_left]
theorem bC2_x {s X Y m : Nat} {f : Nat → Int} (i : Nat) (h : i < 64) (hX : X + 64 ≤ Y) : bC2 s X Y m f (X + i) = bC1 X m f (X + i) := by
  unfold bC2 putC
  rw [if_neg (by omega)]
theorem bC2_y {s X Y m : Nat} {f : Nat → Int} (i : Nat) (h : i < 64) : bC2 s X Y m f (Y + i) = bC1 X m f (X + i) := by
  unfold bC2 putC
  rw [if_pos (by omega), Nat.add_sub_cancel_left]
  exact bD1_at s X m f i h
theorem str_eq {n : Nat} {f g : Nat → Int} (h : ∀ i, i < n → f i = g i) : strN n f = strN n g := by
  unfold strN
  rw [List.map_congr_left (fun i hi => h i (List.mem_range.1 hi))]
theorem ok_good {z t c : Int} (hz : z < 4) (ht : 0 ≤ t ∧ t + 64 ≤ 2048) (hc : c = 1 ∨ c = 2) (bz dn er : Bool) (q : Option (Int × Int)) (s : Int) (C D : Nat → Int) : okK 2 4 ⟨z, t, c, bz, dn, er, q, s, C, D⟩ = true := by
  show (decide (z < ((4 : Nat) : Int)) && ((decide (c = 1) || decide (c = 2)) && inB 2 t 64)) = true
  have e : inB 2 t 64 = true := by unfold inB; exact decide_eq_true (by omega)
  rw [decide_eq_true (by omega), e]
  rcases hc with rfl | rfl <;> rfl
theorem fire_w {s X : Nat} {C D : Nat → Int} (hs : s < 4) (hX : X < 900) : fiD 2 4 ⟨s, X, 2, true, false, false, none, 1, C, D⟩ = ⟨s, X, 2, false, true, false, none, 1, C, putC D (s * 64) 64 (fun i => C (X + i))⟩ := by
  unfold fiD
  rw [ok_good (by omega) (by omega) (.inr rfl)]
  show ({ doD _ with bz := false, dn := true } : DS) = _
  rw [do_write (show ¬ (2 : Int) = 1 by decide)]
  rfl
theorem fire_r {s Y : Nat} {C D : Nat → Int} (hs : s < 4) (hY : Y < 1924) : fiD 2 4 ⟨s, Y, 1, true, true, false, none, 2, C, D⟩ = ⟨s, Y, 1, false, true, false, none, 2, putC C Y 64 (fun i => D (s * 64 + i)), D⟩ := by
  unfold fiD
  rw [ok_good (by omega) (by omega) (.inl rfl)]
  show ({ doD _ with bz := false, dn := true } : DS) = _
  rw [do_read rfl]
  rfl
theorem kbytes_64 {w : World} {r y : Nat} {O : Nat → Prop} {n : Nat} {C D : Nat → Int} (A : Nat) (h : Mk 85 w r y O 2 n C D) (hA : A + 64 ≤ 2048) :
    Calls Try.prog 17 #[.pointer (some ⟨r, 0, none⟩), .int .u32 A, .int .i64 64] w fun e w' => ∃ X, w.heap.size ≤ X ∧ e = .returned (.tuple #[.slice (some ⟨X, 0, none⟩) 64 64, .bool true]) ∧ w'.rowIs X 5 64 (fun i => .int .u8 (C (A + i))) ∧ Fr (fun _ => False) w w' :=
  kbytes_row A 64 h (by omega) (by omega)
theorem slice_e (b o c s : Nat) (hs : s < 4) (hc : 256 ≤ c) : ∀ w, (Instr.slice 28 (.slice (some ⟨b, o, none⟩) 256 c) (some (.int .i64 (IntKind.i64.wrap (IntKind.i64.wrap (s : Int) * 64)))) (some (.int .i64 (IntKind.i64.wrap (IntKind.i64.wrap (IntKind.u32.wrap ((s : Int) + 1)) * 64)))) none).run Try.prog w = .ok (.slice (some ⟨b, o + s * 64, none⟩) 64 (c - s * 64)) w := by
  intro w
  have e1 : IntKind.i64.wrap (IntKind.i64.wrap (s : Int) * 64) = (s * 64 : Nat) := by rw [show IntKind.i64.wrap (s : Int) = s by rw [IntKind.wrap_i64]; omega, IntKind.wrap_i64]; omega
  have e2 : IntKind.i64.wrap (IntKind.i64.wrap (IntKind.u32.wrap ((s : Int) + 1)) * 64) = (s * 64 + 64 : Nat) := by
    rw [show IntKind.u32.wrap ((s : Int) + 1) = s + 1 by rw [IntKind.wrap_u32]; omega, show IntKind.i64.wrap ((s : Int) + 1) = s + 1 by rw [IntKind.wrap_i64]; omega, IntKind.wrap_i64]; omega
  rw [e1, e2, run_slice_lh (ht := und_u8) (h0 := by omega) (h1 := by omega) (h2 := by omega), size1_u8]
  show Result.ok (sliced (some ⟨b, o, none⟩) (((s * 64 : Nat) : Int).toNat) (((s * 64 + 64 : Nat) : Int).toNat) c 1) w = _
  unfold sliced
  rw [if_neg (by omega), Int.toNat_natCast, Int.toNat_natCast]
  show Result.ok (Value.slice (some ((⟨b, o, none⟩ : Addr).add (s * 64 * 1))) (s * 64 + 64 - s * 64) (c - s * 64)) w = _
  rw [add_none, Nat.mul_one, Nat.add_sub_cancel_left]
def c2L : Nat → Value
  | 0 => .int .u32 2
  | _ => .int .u32 1
set_option maxHeartbeats 8000000 in
set_option maxRecDepth 100000 in
theorem back_walk (A : Option Addr) (len cap : Nat) (sec at_ to_ : Int) (w : World) (HB : Hid (InBy w A len cap)) (s0 : 0 ≤ sec) (s1 : sec < 4294967296) (t0 : 0 ≤ at_) (t1 : at_ < 4294967296) (u0 : 0 ≤ to_) (u1 : to_ < 4294967296) :
    Calls Try.prog 5 #[.slice A len cap, .int .u32 sec, .int .u32 at_, .int .u32 to_] w (RetB (.bool true) w) := by
  obtain ⟨f, hlc, hlm, hf⟩ := HB.out
  have HF := Lib.hid hf
  clear hf HB
  obtain ⟨sn, hsn, hs4⟩ : ∃ sn : Nat, sec % 4 = (sn : Int) ∧ sn < 4 := ⟨(sec % 4).toNat, by omega, by omega⟩
  obtain ⟨X, hX, hX9⟩ : ∃ X : Nat, at_ % 900 = (X : Int) ∧ X < 900 := ⟨(at_ % 900).toNat, by omega, by omega⟩
  obtain ⟨T, hT, hT9⟩ : ∃ T : Nat, to_ % 900 = (T : Int) ∧ T < 900 := ⟨(to_ % 900).toNat, by omega, by omega⟩
  have HS := Lib.hid hsn
  have HX := Lib.hid hX
  have HT := Lib.hid hT
  clear hsn hX hT
  have hm1 : ∀ w, (Instr.makeSlice 28 (.int .i64 256) (.int .i64 256)).run Try.prog w = .ok (.slice (some ⟨w.heap.size, 0, none⟩) 256 256) (w.alloc (.cells (madeCells #[.int .u8 0] 256) 5)) := make_m 4 256 (by omega) (by omega)
  go_enter Try.func5, Try.ntmps5
  go_wp2_with fail
  refine (wnew_any w).mono ?_
  rintro e w1 ⟨g, hg, rfl, hw, hb⟩
  go_wp2_with fail
  with_reducible refine (mnew_any 2 2 rfl w1).mono ?_
  rintro e w2 ⟨r, M, rfl, ho, hm, hb2⟩
  have hw2 := hw.below hb2
  have hog : ¬ M g := fun e => by have := ho g e; have := hw.lt g (.inl rfl); omega
  have bl : Below w2.heap.size w2 (w2.alloc (.cells (madeCells #[.int .u8 0] 256) 5)) := (Below.refl _ _).alloc (Nat.le_refl _) _
  have hv : ByAt (fun _ => True) (w2.alloc (.cells (madeCells #[.int .u8 0] 256) 5)) (.slice (some ⟨w2.heap.size, 0, none⟩) 256 256) 256 Z0 := row_by (World.rowIs_made w2 (.int .u8 0) 256 5) (fun _ => ⟨Int.le_refl 0, by show (0 : Int) ≤ 255; omega⟩)
  have hw3 := hw2.below bl
  have hm3 := hm.below bl
  have hb2' := hb2.trans (bl.mono hb2.size)
  clear hw2 hm bl
  go_wp2_with fail
  generalize w2.alloc (.cells (madeCells #[.int .u8 0] 256) 5) = w2' at hw3 hm3 hb2' hv ⊢
  generalize w2.heap.size = Bm at hv ⊢
  with_reducible refine (dnew_any 5 _ 256 Z0 hw3 hm3 hog hv (by omega)).mono ?_
  rintro e w3 ⟨x, y, hx, hy, rfl, hD, hb3⟩
  have o3 : One w w3 x g r y (fun k => M k ∨ k = y) 2 4 5 (.slice none 0 0) (S00 Z0 bD0) := One.new hg hb (fun k hk => by rcases hk with e | e; exact ho k e; have := hb2'.size; omega) hb2' hx hD hb3
  clear hg hw hb ho hb2 hw3 hm3 hb2' hv hog hx hy hD hb3 hm1
  generalize (fun k => M k ∨ k = y) = O at o3
  go_upto_if 43 with fail
  go_cut [0] (fun s wc => ∃ (m cc : Nat), m ≤ 64 ∧ s = .slice A m cc ∧ w3 = wc ∧ Hid (ByAt (fun k => k < w.heap.size) w (.slice A m cc) m f))
  case first =>
    by_cases h16 : len ≤ 64
    · go_wp2_with fail
      go_meet
      exact ⟨len, cap, h16, rfl, rfl, HF.out len (Nat.le_refl _)⟩
    · go_wp2_with fail
      go_meet
      exact ⟨64, cap, Nat.le_refl _, rfl, rfl, HF.out 64 (by omega)⟩
  case rest =>
    obtain ⟨m, cc, h16, rfl, rfl, HV⟩ := hcut
    clear HF hlc hlm
    have hv3 : ByAt (fun k => k < w.heap.size) w3 (.slice A m cc) m f := HV.out.fr (S := fun _ => False) (Fr.of_below o3.bl) (fun _ _ _ => id)
    have HP : Hid (inB 2 (X : Int) (m : Int) = true) := by show _ = _; unfold inB; exact decide_eq_true (by omega)
    have HU : Hid ({ S00 Z0 bD0 with C := uC 2 (S00 Z0 bD0).C (X : Int) m f } = bkT sn X (1024 + T) m f 0) := by
      show _ = _
      unfold uC
      rw [HP.out]
      rfl
    clear HV
    go_wp2_with fail
    rw [HS.out, HX.out, HT.out]
    clear HS HX HT s0 s1 t0 t1 u0 u1
    have hY0 : (1024 : Int) + (T : Int) = ((1024 + T : Nat) : Int) := by omega
    rw [hY0]
    obtain ⟨Y, hY⟩ : ∃ Y, 1024 + T = Y := ⟨_, rfl⟩
    rw [hY] at HU ⊢
    have hYl : 1024 ≤ Y ∧ Y < 1924 := by omega
    obtain ⟨hY1, hY2⟩ := hYl
    clear hY hY0 hT9
    with_reducible refine (put_to o3 (X : Int) _ m f hv3 HP.out HU.out (by omega) (by omega) (by omega)).mono ?_
    rintro e w4 ⟨rfl, v4, o4, _⟩
    clear o3 hv3
    have bl4 : Below w4.heap.size w4 (w4.alloc (.cells #[.int .u32 2, .int .u32 1] 24)) := (Below.refl _ _).alloc (Nat.le_refl _) _
    have o5 := o4.below bl4
    have c5 : Asd (w4.alloc (.cells #[.int .u32 2, .int .u32 1] 24)) x g O v4 w4.heap.size 24 2 c2L := o4.rw (World.rowIs_alloc w4 _ _ _ fun i hi => by
      have : i = 0 ∨ i = 1 := by have : i < 2 := hi; omega
      rcases this with rfl | rfl <;> rfl) (Nat.le_refl _)
    clear o4 bl4 HP HU
    go_wp2_with fail
    generalize w4.alloc (.cells #[.int .u32 2, .int .u32 1] 24) = w5 at o5 c5 ⊢
    generalize w4.heap.size = Bc at c5 ⊢
    go_loopw [60] (fun s wr => ∃ (j : Nat) (v : Value), j ≤ 2 ∧ s = .int .i64 j ∧ One w wr x g r y O 2 4 5 v (bkT sn X Y m f j) ∧ Asd wr x g O v Bc 24 2 c2L) (fun s _ => 2 - (intOf s).toNat)
    case atStart => exact ⟨0, v4, by omega, rfl, o5, c5⟩
    case round =>
      clear o5 c5
      obtain ⟨j, v5, hj, rfl, o5, c5⟩ := hrel
      by_cases hlt : j < 2
      · have hj2 : j = 0 ∨ j = 1 := by omega
        clear hlt hj
        rcases hj2 with rfl | rfl
        · have H1 : Hid (wrD 0 sn 0 (S00 (bC1 X m f) bD0) = ⟨sn, 0, 0, false, false, false, none, 0, bC1 X m f, bD0⟩) := Lib.hid rfl
          have H2 : Hid (wrD 1 X 0 ⟨sn, 0, 0, false, false, false, none, 0, bC1 X m f, bD0⟩ = ⟨sn, X, 0, false, false, false, none, 0, bC1 X m f, bD0⟩) := Lib.hid rfl
          have H3 : Hid (wrD 2 2 0 ⟨sn, X, 0, false, false, false, none, 0, bC1 X m f, bD0⟩ = ⟨sn, X, 2, true, false, false, some (32, 0), 1, bC1 X m f, bD0⟩) := Lib.hid rfl
          have H4 : Hid (fiD 2 4 ⟨sn, X, 2, true, false, false, none, 1, bC1 X m f, bD0⟩ = bkT sn X Y m f 1) := Lib.hid (fire_w (C := bC1 X m f) (D := bD0) hs4 hX9)
          have G0 : Gb (S00 (bC1 X m f) bD0) := gbM _ _ _ _ _ _ (by decide) (by decide) (by decide)
          have G1 : Gb ⟨sn, 0, 0, false, false, false, none, 0, bC1 X m f, bD0⟩ := gbM _ _ _ _ _ _ (by decide) ⟨by omega, by omega⟩ (by decide)
          have G2 : Gb ⟨sn, X, 0, false, false, false, none, 0, bC1 X m f, bD0⟩ := gbM _ _ _ _ _ _ (by decide) ⟨by omega, by omega⟩ ⟨by omega, by omega⟩
          have G4 : Gb ⟨sn, X, 2, true, false, false, none, 1, bC1 X m f, bD0⟩ := gbM _ _ _ _ _ _ (by decide) ⟨by omega, by omega⟩ ⟨by omega, by omega⟩
          have hq : wr.cell? ⟨Bc, 0, none⟩ = some (.int .u32 2) := c5.row.cell (i := 0) (by omega)
          have o5' : One w wr x g r y O 2 4 5 v5 (S00 (bC1 X m f) bD0) := o5
          clear o5
          go_wp2_with fail
          with_reducible refine (write_to o5' 0 0 (sn : Int) (by omega) (by omega) rfl H1.out G0 (by omega) (by omega) (by omega) (by omega)).mono ?_
          rintro e w6 ⟨rfl, v6, o6, s6⟩
          have c6 := c5.step s6
          have bl6 : Below w6.heap.size w6 (w6.alloc (.cells #[.int .u32 X, .int .u32 Y] 24)) := (Below.refl _ _).alloc (Nat.le_refl _) _
          have o7 := o6.below bl6
          have c7 := c6.alloc (.cells #[.int .u32 X, .int .u32 Y] 24)
          clear o5' c5 o6 s6 c6 bl6 hq
          go_wp2_with fail
          generalize w6.alloc (.cells #[.int .u32 X, .int .u32 Y] 24) = w7 at o7 c7 ⊢
          with_reducible refine (write_to o7 1 4 (X : Int) (by omega) (by omega) rfl H2.out G1 (by omega) (by omega) (by omega) (by omega)).mono ?_
          rintro e w8 ⟨rfl, v8, o8, s8⟩
          have c8 := c7.step s8
          clear o7 c7 s8
          go_wp2_with fail
          with_reducible refine (write_to o8 2 8 2 (by omega) (by omega) rfl H3.out G2 (by omega) (by omega) (by omega) (by omega)).mono ?_
          rintro e w9 ⟨rfl, v9, o9, s9⟩
          have c9 := c8.step s9
          clear o8 c8 s9
          go_wp2_with fail
          with_reducible refine (take_yes o9 32 rfl (by omega) rfl).mono ?_
          rintro e w10 ⟨rfl, v10, o10, s10⟩
          have bl10 : Below w10.heap.size w10 (w10.alloc (.cells #[.int .i64 32, .int .i64 5, .int .i64 0] 42)) := (Below.refl _ _).alloc (Nat.le_refl _) _
          have c11 := (c9.step s10).alloc (.cells #[.int .i64 32, .int .i64 5, .int .i64 0] 42)
          have o11 := o10.below bl10
          clear o9 c9 o10 s10 bl10
          go_wp2_with fail
          generalize w10.alloc (.cells #[.int .i64 32, .int .i64 5, .int .i64 0] 42) = w11 at o11 c11 ⊢
          with_reducible refine (fire_to o11 32 (by omega) H4.out G4).mono ?_
          rintro e w12 ⟨rfl, v12, o12, s12⟩
          have c12 := c11.step s12
          clear o11 c11 s12
          go_wp2_with fail
          go_roundw
          case rel => exact ⟨1, v12, by omega, by go_num, o12, c12⟩
          case measure => simp [intOf]
        · have H1 : Hid (wrD 0 sn 0 (⟨sn, X, 2, false, true, false, none, 1, bC1 X m f, bD1 sn X m f⟩) = ⟨sn, X, 2, false, true, false, none, 1, bC1 X m f, bD1 sn X m f⟩) := Lib.hid rfl
          have H2 : Hid (wrD 1 Y 0 ⟨sn, X, 2, false, true, false, none, 1, bC1 X m f, bD1 sn X m f⟩ = ⟨sn, Y, 2, false, true, false, none, 1, bC1 X m f, bD1 sn X m f⟩) := Lib.hid rfl
          have H3 : Hid (wrD 2 1 0 ⟨sn, Y, 2, false, true, false, none, 1, bC1 X m f, bD1 sn X m f⟩ = ⟨sn, Y, 1, true, true, false, some (32, 1), 2, bC1 X m f, bD1 sn X m f⟩) := Lib.hid rfl
          have H4 : Hid (fiD 2 4 ⟨sn, Y, 1, true, true, false, none, 2, bC1 X m f, bD1 sn X m f⟩ = bkT sn X Y m f 2) := Lib.hid (fire_r (C := bC1 X m f) (D := bD1 sn X m f) hs4 hY2)
          have G0 : Gb (⟨sn, X, 2, false, true, false, none, 1, bC1 X m f, bD1 sn X m f⟩) := gbM _ _ _ _ _ _ (by decide) (⟨by omega, by omega⟩) (⟨by omega, by omega⟩)
          have G1 : Gb ⟨sn, X, 2, false, true, false, none, 1, bC1 X m f, bD1 sn X m f⟩ := gbM _ _ _ _ _ _ (by decide) ⟨by omega, by omega⟩ (⟨by omega, by omega⟩)
          have G2 : Gb ⟨sn, Y, 2, false, true, false, none, 1, bC1 X m f, bD1 sn X m f⟩ := gbM _ _ _ _ _ _ (by decide) ⟨by omega, by omega⟩ ⟨by omega, by omega⟩
          have G4 : Gb ⟨sn, Y, 1, true, true, false, none, 2, bC1 X m f, bD1 sn X m f⟩ := gbM _ _ _ _ _ _ (by decide) ⟨by omega, by omega⟩ ⟨by omega, by omega⟩
          have hq : wr.cell? ⟨Bc, 1, none⟩ = some (.int .u32 1) := c5.row.cell (i := 1) (by omega)
          have o5' : One w wr x g r y O 2 4 5 v5 (⟨sn, X, 2, false, true, false, none, 1, bC1 X m f, bD1 sn X m f⟩) := o5
          clear o5
          go_wp2_with fail
          with_reducible refine (write_to o5' 0 0 (sn : Int) (by omega) (by omega) rfl H1.out G0 (by omega) (by omega) (by omega) (by omega)).mono ?_
          rintro e w6 ⟨rfl, v6, o6, s6⟩
          have c6 := c5.step s6
          have bl6 : Below w6.heap.size w6 (w6.alloc (.cells #[.int .u32 X, .int .u32 Y] 24)) := (Below.refl _ _).alloc (Nat.le_refl _) _
          have o7 := o6.below bl6
          have c7 := c6.alloc (.cells #[.int .u32 X, .int .u32 Y] 24)
          clear o5' c5 o6 s6 c6 bl6 hq
          go_wp2_with fail
          generalize w6.alloc (.cells #[.int .u32 X, .int .u32 Y] 24) = w7 at o7 c7 ⊢
          with_reducible refine (write_to o7 1 4 (Y : Int) (by omega) (by omega) rfl H2.out G1 (by omega) (by omega) (by omega) (by omega)).mono ?_
          rintro e w8 ⟨rfl, v8, o8, s8⟩
          have c8 := c7.step s8
          clear o7 c7 s8
          go_wp2_with fail
          with_reducible refine (write_to o8 2 8 1 (by omega) (by omega) rfl H3.out G2 (by omega) (by omega) (by omega) (by omega)).mono ?_
          rintro e w9 ⟨rfl, v9, o9, s9⟩
          have c9 := c8.step s9
          clear o8 c8 s9
          go_wp2_with fail
          with_reducible refine (take_yes o9 32 rfl (by omega) rfl).mono ?_
          rintro e w10 ⟨rfl, v10, o10, s10⟩
          have bl10 : Below w10.heap.size w10 (w10.alloc (.cells #[.int .i64 32, .int .i64 5, .int .i64 1] 42)) := (Below.refl _ _).alloc (Nat.le_refl _) _
          have c11 := (c9.step s10).alloc (.cells #[.int .i64 32, .int .i64 5, .int .i64 1] 42)
          have o11 := o10.below bl10
          clear o9 c9 o10 s10 bl10
          go_wp2_with fail
          generalize w10.alloc (.cells #[.int .i64 32, .int .i64 5, .int .i64 1] 42) = w11 at o11 c11 ⊢
          with_reducible refine (fire_to o11 32 (by omega) H4.out G4).mono ?_
          rintro e w12 ⟨rfl, v12, o12, s12⟩
          have c12 := c11.step s12
          clear o11 c11 s12
          go_wp2_with fail
          go_roundw
          case rel => exact ⟨2, v12, by omega, by go_num, o12, c12⟩
          case measure => simp [intOf]
      · have e2 : j = 2 := by omega
        have hge : ¬ (j : Int) < 2 := by omega
        have o6 : One w wr x g r y O 2 4 5 v5 (bkT sn X Y m f 2) := by have h := o5; rw [e2] at h; exact h
        clear o5 c5 hlt hj e2
        have hXa : X + 64 ≤ 2048 := by omega
        have hYa : Y + 64 ≤ 2048 := by omega
        have hCb := Lib.hid o6.dm.mm.bC
        have hDb := Lib.hid o6.dm.mm.bD
        obtain ⟨st, hst⟩ : ∃ st, strN 64 (fun i => bC1 X m f (X + i)) = st := ⟨_, rfl⟩
        have HP : Hid (strN 64 (fun i => bC2 sn X Y m f (X + i)) = st) := Lib.hid (hst ▸ str_eq fun i hi => bC2_x i hi (by omega))
        have HQ : Hid (strN 64 (fun i => bC2 sn X Y m f (Y + i)) = st) := Lib.hid (hst ▸ str_eq fun i hi => bC2_y i hi)
        have HR : Hid (strN 64 (fun i => bD1 sn X m f (sn * 64 + i)) = st) := Lib.hid (hst ▸ str_eq fun i hi => bD1_at sn X m f i hi)
        clear hst
        go_wp2_with fail
        with_reducible refine (kbytes_64 X o6.dm.mm hXa).mono ?_
        rintro e w7 ⟨PX, hPX, rfl, hr7, hf7⟩
        have o7 := o6.no hf7
        have p7 := o6.rw hr7 hPX
        clear o6 hr7 hf7 hPX
        go_wp2_with fail
        with_reducible refine (kbytes_64 Y o7.dm.mm hYa).mono ?_
        rintro e w8 ⟨QX, hQX, rfl, hr8, hf8⟩
        have o8 := o7.no hf8
        have p8 := p7.keep hf8 id
        have q8 := o7.rw hr8 hQX
        clear o7 p7 hr8 hf8 hQX
        go_wp2_with fail
        with_reducible refine (dbytes_any o8.dm (by omega)).mono ?_
        rintro e w9 ⟨u9, rfl, hB9, hF9⟩
        have o9 := o8.no hF9
        have p9 := p8.keep hF9 id
        have q9 := q8.keep hF9 id
        obtain ⟨ab, ao, ac, rfl, hac, hab, hcell⟩ := ByAt.form (show ByAt (fun k => w8.heap.size ≤ k) w9 u9 256 (bD1 sn X m f) from hB9) (by omega)
        have HCE := Lib.hid hcell
        have kp : (convert 28 9 (.slice (some ⟨PX, 0, none⟩) 64 64)).run Try.prog w9 = .ok (.string st) w9 := p9.str (fun i => hCb.out (X + i)) HP.out
        have kq : (convert 28 9 (.slice (some ⟨QX, 0, none⟩) 64 64)).run Try.prog w9 = .ok (.string st) w9 := q9.str (fun i => hCb.out (Y + i)) HQ.out
        clear o8 p8 q8 hB9 hF9 hcell q9
        go_wp2_with fail
        go_loopw [24] (fun s wr => ∃ i : Nat, i ≤ 256 ∧ s = .int .i64 i ∧ w9 = wr) (fun s _ => 256 - (intOf s).toNat)
        case atStart => exact ⟨0, by omega, rfl, rfl⟩
        case round =>
          obtain ⟨i, hi, rfl, rfl⟩ := hrel
          by_cases hlt : i < 256
          · have hq := (HCE.out i hlt).1
            by_cases hne : i / 64 = sn
            · have hneI : ((i : Int) / 64 != (sn : Int)) = false := by rw [show (i : Int) / 64 = (sn : Int) by omega]; simp
              clear hne
              go_wp2_with fail
              go_roundw
              case rel => exact ⟨i + 1, by omega, by go_num, trivial⟩
              case measure => simp [intOf]; omega
            · have hneI : ((i : Int) / 64 != (sn : Int)) = true := bne_iff_ne.2 (by omega)
              rw [bD1_else i hne] at hq
              clear hne
              go_wp2_with fail
              go_roundw
              case rel => exact ⟨i + 1, by omega, by go_num, trivial⟩
              case measure => simp [intOf]; omega
          · have hge : ¬ (i : Int) < 256 := by omega
            have hsl := slice_e ab ao ac sn hs4 hac
            have od := o9.below (Below.refl _ _).drew
            have hsB : ByAt (fun _ => True) w9.drew (.slice (some ⟨ab, ao + sn * 64, none⟩) 64 (ac - sn * 64)) 64 (fun i => bD1 sn X m f (sn * 64 + i)) := by
              refine .inr ⟨_, _, rfl, by omega, fun _ => ⟨rfl, trivial⟩, fun i hi => ⟨?_, hDb.out _⟩⟩
              rw [add_none, Nat.add_assoc]
              exact (HCE.out (sn * 64 + i) (by omega)).1
            have r1 : (convert 28 9 (.slice (some ⟨ab, ao + sn * 64, none⟩) 64 (ac - sn * 64))).run Try.prog w9.drew = .ok (.string st) w9.drew := ByAt.str hsB HR.out
            have r2 : (convert 28 9 (.slice (some ⟨PX, 0, none⟩) 64 64)).run Try.prog w9.drew = .ok (.string st) w9.drew := Asd.str (f := fun i => bC2 sn X Y m f (X + i)) ⟨p9.row, p9.no⟩ (fun i => hCb.out (X + i)) HP.out
            have HSB := Lib.hid ((ByAt.lt hsB).mono (fun k hk => hk.2))
            have p9d : Asd w9.drew x g O v5 PX 5 64 (fun i => .int .u8 (bC2 sn X Y m f (X + i))) := ⟨p9.row, p9.no⟩
            clear hsB kp kq hlt hi
            go_wp2_with fail
            go_region_held3 (fun w' => (convert 28 9 (.slice (some ⟨ab, ao + sn * 64, none⟩) 64 (ac - sn * 64))).run Try.prog w' = .ok (.string st) w' ∧ (convert 28 9 (.slice (some ⟨PX, 0, none⟩) 64 64)).run Try.prog w' = .ok (.string st) w') (first | with_reducible exact ⟨r1, r2⟩ | with_reducible exact ⟨r3, r4⟩)
              (first
                | (go_at_call 12; (with_reducible refine (known_any w9.drew).mono ?_); rintro e w11 ⟨rfl, hb11⟩; have hbl := (od.below hb11).bl; have hsC := (show ByAt (fun k => k < w9.drew.heap.size) w9.drew (.slice (some ⟨ab, ao + sn * 64, none⟩) 64 (ac - sn * 64)) 64 (fun i => bD1 sn X m f (sn * 64 + i)) from HSB.out).fr (S := fun _ => False) (Fr.of_below hb11) (fun _ _ _ => id); have r3 : (convert 28 9 (.slice (some ⟨ab, ao + sn * 64, none⟩) 64 (ac - sn * 64))).run Try.prog w11 = .ok (.string st) w11 := ByAt.str hsC HR.out; have hpC := p9d.keep (Fr.of_below (S := fun _ => False) hb11) id; have r4 : (convert 28 9 (.slice (some ⟨PX, 0, none⟩) 64 64)).run Try.prog w11 = .ok (.string st) w11 := hpC.str (fun i => hCb.out (X + i)) HP.out))
            go_wp2
            go_ret
            exact ⟨rfl, hbl⟩
end Go.Proofs.Ytifhnidcdfpabaa
