/-
  Chapter 13: the walk of DmaErrors.
-/
import Derived.Test.YtamaonkepfkgnaaMv13
namespace Go.Proofs.Ytamaonkepfkgnaa
open Go.RowKit
set_option linter.unusedVariables false
set_option linter.unusedSimpArgs false
/-- three words -/
def w3f (a b c : Int) : Nat → Value
  | 0 => .int .u32 a
  | 1 => .int .u32 b
  | _ => .int .u32 c
/-- word i of three -/
def w3n (a b c : Int) : Nat → Int
  | 0 => a
  | 1 => b
  | _ => c
/-- behind i writes of three words -/
def wsD (a b c : Int) (S : DS) : Nat → DS
  | 0 => S
  | 1 => { S with f := a }
  | 2 => { S with f := a, t := b }
  | _ => { S with f := a, t := b, c := c }
theorem wsD_up (a b c : Int) (S : DS) (i : Nat) (hi : i < 3) : wrD i (w3n a b c i) 0 (wsD a b c S i) = wsD a b c S (i + 1) := by
  have : i = 0 ∨ i = 1 ∨ i = 2 := by omega
  rcases this with rfl | rfl | rfl <;> rfl
theorem Gb.ws {a b c : Int} {S : DS} (h : Gb S) (ha : 0 ≤ a ∧ a < 4294967296) (hb : 0 ≤ b ∧ b < 4294967296) (hc : 0 ≤ c ∧ c < 4294967296) (i : Nat) : Gb (wsD a b c S i) := by
  match i with
  | 0 => exact h
  | 1 => exact ⟨h.a0, ha.1, ha.2, h.t0, h.t1, h.c0, h.c1⟩
  | 2 => exact ⟨h.a0, ha.1, ha.2, hb.1, hb.2, h.c0, h.c1⟩
  | _ + 3 => exact ⟨h.a0, ha.1, ha.2, hb.1, hb.2, hc.1, hc.2⟩
theorem w3f_set (a b c u : Int) (k : Nat) (hk : k < 3) : ∃ a2 b2 c2, (∀ j, j < 3 → (if j = k then Value.int .u32 u else w3f a b c j) = w3f a2 b2 c2 j) ∧ (k = 0 → a2 = u ∧ b2 = b ∧ c2 = c) ∧ (k = 1 → a2 = a ∧ b2 = u ∧ c2 = c) ∧ (k = 2 → a2 = a ∧ b2 = b ∧ c2 = u) := by
  have : k = 0 ∨ k = 1 ∨ k = 2 := by omega
  rcases this with rfl | rfl | rfl
  · refine ⟨u, b, c, fun j hj => ?_, fun _ => ⟨rfl, rfl, rfl⟩, fun e => absurd e (by omega), fun e => absurd e (by omega)⟩
    have : j = 0 ∨ j = 1 ∨ j = 2 := by omega
    rcases this with rfl | rfl | rfl <;> rfl
  · refine ⟨a, u, c, fun j hj => ?_, fun e => absurd e (by omega), fun _ => ⟨rfl, rfl, rfl⟩, fun e => absurd e (by omega)⟩
    have : j = 0 ∨ j = 1 ∨ j = 2 := by omega
    rcases this with rfl | rfl | rfl <;> rfl
  · refine ⟨a, b, u, fun j hj => ?_, fun e => absurd e (by omega), fun e => absurd e (by omega), fun _ => ⟨rfl, rfl, rfl⟩⟩
    have : j = 0 ∨ j = 1 ∨ j = 2 := by omega
    rcases this with rfl | rfl | rfl <;> rfl
theorem w3f_n (a b c : Int) (i : Nat) (hi : i < 3) : w3f a b c i = .int .u32 (w3n a b c i) := by
  have : i = 0 ∨ i = 1 ∨ i = 2 := by omega
  rcases this with rfl | rfl | rfl <;> rfl
theorem w3n_b {a b c : Int} (ha : 0 ≤ a ∧ a < 4294967296) (hb : 0 ≤ b ∧ b < 4294967296) (hc : 0 ≤ c ∧ c < 4294967296) (i : Nat) : 0 ≤ w3n a b c i ∧ w3n a b c i < 4294967296 := by
  match i with
  | 0 => exact ha
  | 1 => exact hb
  | _ + 2 => exact hc
/-- a move that may not be: words from, to, count -/
def badW (a b c : Int) : Prop := 0 ≤ a ∧ a < 4294967296 ∧ 0 ≤ b ∧ b < 4294967296 ∧ 0 ≤ c ∧ c < 4294967296 ∧ (4096 < c ∨ 1024 < a + c ∨ 1024 < b + c)
/-- a move that may be -/
def goodW (a b c : Int) : Prop := 0 ≤ a ∧ 0 ≤ b ∧ 0 ≤ c ∧ a + c ≤ 1024 ∧ b + c ≤ 1024
theorem mov_bad {a b c : Int} (h : badW a b c) (bz dn er : Bool) (q : Option (Int × Int)) (n : Int) (C : Nat → Int) : movB 1 ⟨a, b, c, bz, dn, er, q, n, C⟩ = false := by
  obtain ⟨h1, h2, h3, h4, h5, h6, h7⟩ := h
  unfold movB inB
  show (decide (c ≤ 4096) && (decide (0 ≤ c ∧ a + c ≤ 1024 * (1 : Nat)) && decide (0 ≤ c ∧ b + c ≤ 1024 * (1 : Nat)))) = false
  rcases h7 with h7 | h7 | h7
  · rw [decide_eq_false (show ¬ c ≤ 4096 by omega)]; rfl
  · rw [decide_eq_false (show ¬ (0 ≤ c ∧ a + c ≤ 1024 * (1 : Nat)) by omega)]; simp
  · rw [decide_eq_false (show ¬ (0 ≤ c ∧ b + c ≤ 1024 * (1 : Nat)) by omega)]; simp
theorem mov_good {a b c : Int} (h : goodW a b c) (bz dn er : Bool) (q : Option (Int × Int)) (n : Int) (C : Nat → Int) : movB 1 ⟨a, b, c, bz, dn, er, q, n, C⟩ = true := by
  obtain ⟨h1, h2, h3, h4, h5⟩ := h
  unfold movB inB
  show (decide (c ≤ 4096) && (decide (0 ≤ c ∧ a + c ≤ 1024 * (1 : Nat)) && decide (0 ≤ c ∧ b + c ≤ 1024 * (1 : Nat)))) = true
  rw [decide_eq_true (show c ≤ 4096 by omega), decide_eq_true (show 0 ≤ c ∧ a + c ≤ 1024 * (1 : Nat) by omega), decide_eq_true (show 0 ≤ c ∧ b + c ≤ 1024 * (1 : Nat) by omega)]
  rfl
/-- when it is armed -/
theorem er_go {a b c n : Int} {C : Nat → Int} (hc : 0 ≤ c) : ∃ T : Int, T ≤ 2000 ∧ wrD 3 1 0 ⟨a, b, c, false, false, false, none, n, C⟩ = ⟨a, b, c, true, false, false, some (T, n), n + 1, C⟩ := by
  refine ⟨0 + dl c, by have := dl_hi hc; omega, ?_⟩
  show ctlD 1 0 _ = _
  unfold ctlD
  rw [if_pos ⟨rfl, rfl⟩]
  rfl
theorem er_fire {a b c n : Int} {C : Nat → Int} (h : badW a b c) : fiD 1 ⟨a, b, c, true, false, false, none, n, C⟩ = ⟨a, b, c, false, true, true, none, n, C⟩ := by
  unfold fiD
  rw [mov_bad h]
theorem er_fire2 {a b c n : Int} {C : Nat → Int} (h : goodW a b c) : ∃ C2, fiD 1 ⟨a, b, c, true, false, false, none, n, C⟩ = ⟨a, b, c, false, true, false, none, n, C2⟩ := by
  refine ⟨movC ⟨a, b, c, true, false, false, none, n, C⟩, ?_⟩
  unfold fiD
  rw [mov_good h]

section
variable {W0 w : World} {x g r : Nat} {O : Nat → Prop} {p : Nat} {d : Int} {v : Value} {S : DS} {X Z n : Nat} {F : Nat → Value} {a b c a2 b2 c2 : Int}
theorem row_apart (h1 : Asd w x g O v Z 27 3 (w3f a b c)) (h2 : Asd w x g O v X 5 n F) : Z ≠ X := by
  rintro rfl
  obtain ⟨c1, hb1, _⟩ := h1.row
  obtain ⟨c2, hb2, _⟩ := h2.row
  rw [hb1] at hb2
  cases hb2
/-- a word of the three is another one -/
theorem set3 (h : One W0 w x g r O p d v S) (z : Asd w x g O v Z 27 3 (w3f a b c)) (lZ : W0.heap.size ≤ Z) (k : Nat) (u : Int) (hw : ∀ j, j < 3 → (if j = k then Value.int .u32 u else w3f a b c j) = w3f a2 b2 c2 j) :
    One W0 (w.setCell ⟨Z, k, none⟩ (.int .u32 u)) x g r O p d v S ∧ Asd (w.setCell ⟨Z, k, none⟩ (.int .u32 u)) x g O v Z 27 3 (w3f a2 b2 c2) ∧ ∀ {X n F}, Asd w x g O v X 5 n F → Asd (w.setCell ⟨Z, k, none⟩ (.int .u32 u)) x g O v X 5 n F := by
  have f : Fr (fun j => j = Z) w (w.setCell ⟨Z, k, none⟩ (.int .u32 u)) := (Fr.refl (fun j => j = Z) w).setCell (x := ⟨Z, k, none⟩) (.inl rfl) _
  exact ⟨h.other f z.no lZ, ⟨(z.row.set k _).congr hw, z.no⟩, fun h2 => h2.keep f (fun e => row_apart z h2 e.symm)⟩
end
theorem bad0 (y : Int) (h : 0 ≤ y) : badW (1009 + y % 100000) 512 16 := ⟨by omega, by omega, by omega, by omega, by omega, by omega, by omega⟩
theorem bad1 (y : Int) (h : 0 ≤ y) : badW 0 (1009 + y % 100000) 16 := ⟨by omega, by omega, by omega, by omega, by omega, by omega, by omega⟩
theorem bad2 (y : Int) (h : 0 ≤ y) : badW 0 512 (4097 + y % 100000) := ⟨by omega, by omega, by omega, by omega, by omega, by omega, by omega⟩
theorem er_clr (a b c n : Int) (C : Nat → Int) : wrD 4 6 0 ⟨a, b, c, false, true, true, none, n, C⟩ = ⟨a, b, c, false, false, false, none, n, C⟩ := rfl

set_option maxHeartbeats 4000000 in
set_option maxRecDepth 100000 in
theorem errors_walk (A : Option Addr) (len cap : Nat) (n y : Int) (w : World) (HB : Hid (InBy w A len cap)) (n0 : -9223372036854775808 ≤ n) (n1 : n ≤ 9223372036854775807) (y0 : 0 ≤ y) (y1 : y < 4294967296) :
    Calls Try.prog 6 #[.slice A len cap, .int .i64 n, .int .u32 y] w (RetB (.bool true) w) := by
  obtain ⟨f, hlc, hlm, hf⟩ := HB.out
  have HF := Lib.hid hf
  clear hf HB
  go_enter Try.func6, Try.ntmps6
  go_wp2_with fail
  refine (wnew_any w).mono ?_
  rintro e w1 ⟨g, hg, rfl, hw, hb⟩
  go_wp2_with fail
  with_reducible refine (mnew_any 1 1 rfl w1).mono ?_
  rintro e w2 ⟨r, O, rfl, ho, hm, hb2⟩
  have hw2 := hw.below hb2
  have hog : ¬ O g := fun e => by have := ho g e; have := hw.lt g (.inl rfl); omega
  go_wp2_with fail
  with_reducible refine (dnew_any 4 hw2 hm hog).mono ?_
  rintro e w3 ⟨x, hx, rfl, hD, hb3⟩
  have o3 : One w w3 x g r O 1 4 (.slice none 0 0) (S00 Z0) := One.new hg hb ho hb2 hx hD hb3
  clear hg hw hb ho hm hb2 hw2 hog hx hD hb3
  go_upto_if 41 with fail
  go_cut [0] (fun s wc => ∃ m : Nat, m ≤ 1000 ∧ m ≤ len ∧ s = .slice A m cap ∧ w3 = wc)
  case first =>
    by_cases h16 : len ≤ 1000
    · go_wp2_with fail
      go_meet
      exact ⟨len, h16, Nat.le_refl _, rfl, rfl⟩
    · go_wp2_with fail
      go_meet
      exact ⟨1000, Nat.le_refl _, by omega, rfl, rfl⟩
  case rest =>
    obtain ⟨m, h16, hml, rfl, rfl⟩ := hcut
    have hB3 : ByAt (fun k => k < w.heap.size) w3 (.slice A m cap) m f := (HF.out m hml).fr (S := fun _ => False) (Fr.of_below (o3.bl)) (fun _ _ _ => id)
    have HP : Hid (inB 1 0 (m : Int) = true) := by show _ = _; unfold inB; exact decide_eq_true (by omega)
    clear HF
    go_wp2_with fail
    with_reducible refine (put_to o3 0 (.slice A m cap) m f hB3 HP.out (S2 := S00 (MC m f)) rfl (by omega) (by omega) (by omega)).mono ?_
    rintro e w4 ⟨rfl, v4, o4, _⟩
    clear o3 hB3 HP
    obtain ⟨C, hC⟩ : ∃ C, MC m f = C := ⟨_, rfl⟩
    rw [hC] at o4
    clear hC
    go_wp2_with fail
    with_reducible refine (mbytes_all o4.dm.mm).mono ?_
    rintro e w5 ⟨X, hX, rfl, hr5, hf5⟩
    have o5 := o4.no hf5
    have x5 := o4.rw hr5 hX
    clear o4 hX hr5 hf5
    have o6 := o5.alloc (.cells #[.int .u32 0, .int .u32 512, .int .u32 16] 27)
    have x6 := x5.alloc (.cells #[.int .u32 0, .int .u32 512, .int .u32 16] 27)
    have z6 : Asd (w5.alloc (.cells #[.int .u32 0, .int .u32 512, .int .u32 16] 27)) x g O v4 w5.heap.size 27 3 (w3f 0 512 16) := o5.rw (World.rowIs_alloc w5 _ _ _ fun i hi => by
      have : i = 0 ∨ i = 1 ∨ i = 2 := by have : i < 3 := hi; omega
      rcases this with rfl | rfl | rfl <;> rfl) (Nat.le_refl _)
    have lZ : w.heap.size ≤ w5.heap.size := o5.bl.size
    clear o5 x5
    go_wp2_with fail
    generalize w5.alloc (.cells #[.int .u32 0, .int .u32 512, .int .u32 16] 27) = w6 at o6 x6 z6 ⊢
    generalize w5.heap.size = Z at z6 lZ ⊢
    with_reducible refine (within_any n 0 2 w6 (by omega) (by omega) (by omega) n0 n1).mono ?_
    rintro e w7 ⟨k, k0, k1, rfl, rfl⟩
    obtain ⟨k, rfl⟩ : ∃ j : Nat, k = j := ⟨k.toNat, by omega⟩
    have hk : k < 3 := by omega
    clear n0 n1 k0 k1
    go_upto_region 11 with fail
    go_cut [13] (fun s wc => s = .int .i64 k ∧ One w wc x g r O 1 4 v4 (S00 C) ∧ Asd wc x g O v4 X 5 1024 (fun i => .int .u8 (C (0 + i))) ∧ ∃ a b c, badW a b c ∧ (k = 0 → goodW 100 b c) ∧ (k = 1 → goodW a 100 c) ∧ (k = 2 → goodW a b 100) ∧ Asd wc x g O v4 Z 27 3 (w3f a b c))
    case first =>
      have z7 := z6.alloc (.cells #[.int .u32 1009, .int .u32 1009, .int .u32 4097] 24)
      have o7 := o6.alloc (.cells #[.int .u32 1009, .int .u32 1009, .int .u32 4097] 24)
      have x7 := x6.alloc (.cells #[.int .u32 1009, .int .u32 1009, .int .u32 4097] 24)
      have hk3 : k = 0 ∨ k = 1 ∨ k = 2 := by omega
      rcases hk3 with rfl | rfl | rfl
      · have q0 : (w6.alloc (.cells #[.int .u32 1009, .int .u32 1009, .int .u32 4097] 24)).cell? ⟨Z, 0, none⟩ = some (w3f 0 512 16 0) := z7.row.cell (i := 0) (by omega)
        have f0 := z7.row.frozen 0
        obtain ⟨p1, p2, p3⟩ := set3 (a2 := 1009 + y % 100000) (b2 := 512) (c2 := 16) o7 z7 lZ 0 (1009 + y % 100000) (fun j hj => by
          have : j = 0 ∨ j = 1 ∨ j = 2 := by omega
          rcases this with rfl | rfl | rfl <;> rfl)
        have p4 := p3 x7
        have hbad := Lib.hid (bad0 y y0)
        clear o6 x6 z6 o7 x7 z7
        go_wp2_with fail
        go_meet
        exact ⟨rfl, p1, p4, _, _, _, hbad.out, fun _ => ⟨by omega, by omega, by omega, by omega, by omega⟩, fun e => absurd e (by omega), fun e => absurd e (by omega), p2⟩
      · have q0 : (w6.alloc (.cells #[.int .u32 1009, .int .u32 1009, .int .u32 4097] 24)).cell? ⟨Z, 1, none⟩ = some (w3f 0 512 16 1) := z7.row.cell (i := 1) (by omega)
        have f0 := z7.row.frozen 1
        obtain ⟨p1, p2, p3⟩ := set3 (a2 := 0) (b2 := 1009 + y % 100000) (c2 := 16) o7 z7 lZ 1 (1009 + y % 100000) (fun j hj => by
          have : j = 0 ∨ j = 1 ∨ j = 2 := by omega
          rcases this with rfl | rfl | rfl <;> rfl)
        have p4 := p3 x7
        have hbad := Lib.hid (bad1 y y0)
        clear o6 x6 z6 o7 x7 z7
        go_wp2_with fail
        go_meet
        exact ⟨rfl, p1, p4, _, _, _, hbad.out, fun e => absurd e (by omega), fun _ => ⟨by omega, by omega, by omega, by omega, by omega⟩, fun e => absurd e (by omega), p2⟩
      · have q0 : (w6.alloc (.cells #[.int .u32 1009, .int .u32 1009, .int .u32 4097] 24)).cell? ⟨Z, 2, none⟩ = some (w3f 0 512 16 2) := z7.row.cell (i := 2) (by omega)
        have f0 := z7.row.frozen 2
        obtain ⟨p1, p2, p3⟩ := set3 (a2 := 0) (b2 := 512) (c2 := 4097 + y % 100000) o7 z7 lZ 2 (4097 + y % 100000) (fun j hj => by
          have : j = 0 ∨ j = 1 ∨ j = 2 := by omega
          rcases this with rfl | rfl | rfl <;> rfl)
        have p4 := p3 x7
        have hbad := Lib.hid (bad2 y y0)
        clear o6 x6 z6 o7 x7 z7
        go_wp2_with fail
        go_meet
        exact ⟨rfl, p1, p4, _, _, _, hbad.out, fun e => absurd e (by omega), fun e => absurd e (by omega), fun _ => ⟨by omega, by omega, by omega, by omega, by omega⟩, p2⟩
    case rest =>
      clear o6 x6 z6 y0 y1
      obtain ⟨rfl, o8, x8, a, b, c, hbad, g0, g1, g2, z8⟩ := hcut
      have HBad := Lib.hid hbad
      have HG := Lib.hid (And.intro g0 (And.intro g1 g2))
      have ha := hbad
      obtain ⟨a0, a1, b0, b1, c0, c1, _⟩ := ha
      have HA := Lib.hid (And.intro a0 a1)
      have HB2 := Lib.hid (And.intro b0 b1)
      have HC2 := Lib.hid (And.intro c0 c1)
      clear hbad g0 g1 g2 a0 a1 b0 b1 c0 c1
      have G0 : Gb (S00 C) := gbM false false false none C (by decide) (by decide) (by decide) (by decide)
      go_wp2_with fail
      go_loopw [14] (fun s wr => ∃ (i : Nat) (v : Value), i ≤ 3 ∧ s = .int .i64 i ∧ One w wr x g r O 1 4 v (wsD a b c (S00 C) i) ∧ Asd wr x g O v X 5 1024 (fun i => .int .u8 (C (0 + i))) ∧ Asd wr x g O v Z 27 3 (w3f a b c)) (fun s _ => 3 - (intOf s).toNat)
      case atStart => exact ⟨0, v4, by omega, rfl, o8, x8, z8⟩
      case round =>
        clear o8 x8 z8
        obtain ⟨i, v9, hi, rfl, o9, x9, z9⟩ := hrel
        by_cases hlt : i < 3
        · have q9 := z9.row.cell (i := i) hlt
          rw [w3f_n a b c i hlt] at q9
          have G9 := G0.ws HA.out HB2.out HC2.out i
          have H9 := Lib.hid (wsD_up a b c (S00 C) i hlt)
          have HN := Lib.hid (w3n_b HA.out HB2.out HC2.out i)
          go_wp2_with fail
          with_reducible refine (write_to o9 i _ (w3n a b c i) (by omega) (by omega) (decide_eq_true (by omega)) H9.out G9 HN.out.1 HN.out.2 (by omega) (by omega)).mono ?_
          rintro e w10 ⟨rfl, v10, o10, c10⟩
          have x10 := x9.step c10
          have z10 := z9.step c10
          clear o9 x9 z9 q9
          go_wp2_with fail
          go_roundw
          case rel => exact ⟨i + 1, v10, by omega, by go_num, o10, x10, z10⟩
          case measure => simp [intOf]; omega
        · have e3 : i = 3 := by omega
          have o9' : One w wr x g r O 1 4 v9 ⟨a, b, c, false, false, false, none, 0, C⟩ := by rw [e3] at o9; exact o9
          have hge : ¬ (i : Int) < 3 := by omega
          obtain ⟨T1, hT1, hS1⟩ := er_go (a := a) (b := b) (n := 0) (C := C) HC2.out.1
          have H1 : Hid (wrD 3 1 0 ⟨a, b, c, false, false, false, none, 0, C⟩ = ⟨a, b, c, true, false, false, some (T1, 0), 1, C⟩) := Lib.hid hS1
          have G1 : Gb ⟨a, b, c, false, false, false, none, 0, C⟩ := gbM _ _ _ _ _ (by decide) HA.out HB2.out HC2.out
          have G2 : Gb ⟨a, b, c, true, false, false, none, 1, C⟩ := gbM _ _ _ _ _ (by decide) HA.out HB2.out HC2.out
          have G3 : Gb ⟨a, b, c, false, true, true, none, 1, C⟩ := gbM _ _ _ _ _ (by decide) HA.out HB2.out HC2.out
          have G4 : Gb ⟨a, b, c, false, false, false, none, 1, C⟩ := gbM _ _ _ _ _ (by decide) HA.out HB2.out HC2.out
          have H2 := Lib.hid (er_fire (n := 1) (C := C) HBad.out)
          have H3 := Lib.hid (er_clr a b c 1 C)
          have hCb := Lib.hid o9'.dm.mm.bd
          clear o9 hlt hi e3 hS1
          go_wp2_with fail
          with_reducible refine (write_to o9' 3 12 1 (by omega) (by omega) rfl H1.out G1 (by omega) (by omega) (by omega) (by omega)).mono ?_
          rintro e w11 ⟨rfl, v11, o11, c11⟩
          have x11 := x9.step c11
          have z11 := z9.step c11
          clear o9' x9 z9 c11
          go_wp2_with fail
          with_reducible refine (take_yes o11 2000 rfl hT1 rfl).mono ?_
          rintro e w12 ⟨rfl, v12, o12, c12⟩
          have x13 := (x11.step c12).alloc (.cells #[.int .i64 T1, .int .i64 4, .int .i64 0] 45)
          have z13 := (z11.step c12).alloc (.cells #[.int .i64 T1, .int .i64 4, .int .i64 0] 45)
          have o13 := o12.alloc (.cells #[.int .i64 T1, .int .i64 4, .int .i64 0] 45)
          clear o11 x11 z11 o12 c12
          go_wp2_with fail
          generalize w12.alloc (.cells #[.int .i64 T1, .int .i64 4, .int .i64 0] 45) = w13 at o13 x13 z13 ⊢
          with_reducible refine (fire_to o13 T1 H2.out G2).mono ?_
          rintro e w14 ⟨rfl, v14, o14, c14⟩
          have x14 := x13.step c14
          have z14 := z13.step c14
          clear o13 x13 z13 c14
          go_wp2_with fail
          with_reducible refine (read_to o14 4 16 (by omega) (by omega) rfl (y := 6) rfl).mono ?_
          rintro e w15 ⟨rfl, rfl⟩
          go_wp2_with fail
          with_reducible refine (mbytes_all o14.dm.mm).mono ?_
          rintro e w15 ⟨Y, hY, rfl, hr15, hf15⟩
          have o15 := o14.no hf15
          have x15 := x14.keep hf15 id
          have z15 := z14.keep hf15 id
          have k1 : (convert 32 9 (.slice (some ⟨Y, 0, none⟩) 1024 1024)).run Try.prog w15 = .ok (.string (strN 1024 (fun i => C (0 + i)))) w15 := conv_any (row_by hr15 (fun i => hCb.out (0 + i)))
          have k2 : (convert 32 9 (.slice (some ⟨X, 0, none⟩) 1024 1024)).run Try.prog w15 = .ok (.string (strN 1024 (fun i => C (0 + i)))) w15 := conv_any (row_by x15.row (fun i => hCb.out (0 + i)))
          clear o14 x14 z14 hY hr15 hf15
          go_wp2_with fail
          with_reducible refine (line_to o15 (b := true) rfl).mono ?_
          rintro e w16 ⟨rfl, rfl⟩
          go_wp2_with fail
          with_reducible refine (write_to o15 4 16 6 (by omega) (by omega) rfl H3.out G3 (by omega) (by omega) (by omega) (by omega)).mono ?_
          rintro e w16 ⟨rfl, v16, o16, c16⟩
          have z16 := z15.step c16
          clear o15 x15 z15 c16 k1 k2
          go_wp2_with fail
          with_reducible refine (line_to o16 (b := false) rfl).mono ?_
          rintro e w17 ⟨rfl, rfl⟩
          obtain ⟨a2, b2, c2, hw, q0, q1, q2⟩ := w3f_set a b c 100 k hk
          have hg : goodW a2 b2 c2 := by
            obtain ⟨g0, g1, g2⟩ := HG.out
            have hk3 : k = 0 ∨ k = 1 ∨ k = 2 := by omega
            rcases hk3 with e | e | e
            · obtain ⟨r1, r2, r3⟩ := q0 e; rw [r1, r2, r3]; exact g0 e
            · obtain ⟨r1, r2, r3⟩ := q1 e; rw [r1, r2, r3]; exact g1 e
            · obtain ⟨r1, r2, r3⟩ := q2 e; rw [r1, r2, r3]; exact g2 e
          obtain ⟨p1, p2, _⟩ := set3 o16 z16 lZ k 100 hw
          have qc := z16.row.cell (i := k) hk
          have qf := z16.row.frozen k
          rw [w3f_n a b c k hk] at qc
          clear o16 z16 hw q0 q1 q2
          have hg2 := hg
          obtain ⟨a20, b20, c20, ac2, bc2⟩ := hg2
          have HG2 := Lib.hid hg
          have HA2 : Hid (0 ≤ a2 ∧ a2 < 4294967296) := ⟨a20, by omega⟩
          have HB3 : Hid (0 ≤ b2 ∧ b2 < 4294967296) := ⟨b20, by omega⟩
          have HC3 : Hid (0 ≤ c2 ∧ c2 < 4294967296) := ⟨c20, by omega⟩
          clear hg a20 b20 c20 ac2 bc2 H1 H2 H3 G0 G1 G2 G3 HG hCb HA HB2 HC2 HBad
          go_wp2_with fail
          generalize w16.setCell ⟨Z, k, none⟩ (.int .u32 100) = w17 at p1 p2 ⊢
          go_loopw [21] (fun s wr => ∃ (i : Nat) (v : Value), i ≤ 3 ∧ s = .int .i64 i ∧ One w wr x g r O 1 4 v (wsD a2 b2 c2 ⟨a, b, c, false, false, false, none, 1, C⟩ i) ∧ Asd wr x g O v Z 27 3 (w3f a2 b2 c2)) (fun s _ => 3 - (intOf s).toNat)
          case atStart => exact ⟨0, v16, by omega, rfl, p1, p2⟩
          case round =>
            clear p1 p2
            obtain ⟨i, v9, hi, rfl, o9, z9⟩ := hrel
            by_cases hlt : i < 3
            · have q9 := z9.row.cell (i := i) hlt
              rw [w3f_n a2 b2 c2 i hlt] at q9
              have G9 := G4.ws HA2.out HB3.out HC3.out i
              have H9 := Lib.hid (wsD_up a2 b2 c2 ⟨a, b, c, false, false, false, none, 1, C⟩ i hlt)
              have HN := Lib.hid (w3n_b HA2.out HB3.out HC3.out i)
              go_wp2_with fail
              with_reducible refine (write_to o9 i _ (w3n a2 b2 c2 i) (by omega) (by omega) (decide_eq_true (by omega)) H9.out G9 HN.out.1 HN.out.2 (by omega) (by omega)).mono ?_
              rintro e w10 ⟨rfl, v10, o10, c10⟩
              have z10 := z9.step c10
              clear o9 z9 q9
              go_wp2_with fail
              go_roundw
              case rel => exact ⟨i + 1, v10, by omega, by go_num, o10, z10⟩
              case measure => simp [intOf]; omega
            · have e3 : i = 3 := by omega
              have o9' : One w wr x g r O 1 4 v9 ⟨a2, b2, c2, false, false, false, none, 1, C⟩ := by rw [e3] at o9; exact o9
              have hge : ¬ (i : Int) < 3 := by omega
              obtain ⟨T2, hT2, hS2⟩ := er_go (a := a2) (b := b2) (n := 1) (C := C) HC3.out.1
              obtain ⟨C2, hC2⟩ := er_fire2 (n := 2) (C := C) HG2.out
              have H1 : Hid (wrD 3 1 0 ⟨a2, b2, c2, false, false, false, none, 1, C⟩ = ⟨a2, b2, c2, true, false, false, some (T2, 1), 2, C⟩) := Lib.hid hS2
              have H2 := Lib.hid hC2
              have G1 : Gb ⟨a2, b2, c2, false, false, false, none, 1, C⟩ := gbM _ _ _ _ _ (by decide) HA2.out HB3.out HC3.out
              have G2 : Gb ⟨a2, b2, c2, true, false, false, none, 2, C⟩ := gbM _ _ _ _ _ (by decide) HA2.out HB3.out HC3.out
              clear o9 hlt hi e3 hS2 hC2 z9
              go_wp2_with fail
              with_reducible refine (write_to o9' 3 12 1 (by omega) (by omega) rfl H1.out G1 (by omega) (by omega) (by omega) (by omega)).mono ?_
              rintro e w11 ⟨rfl, v11, o11, _⟩
              clear o9'
              go_wp2_with fail
              with_reducible refine (take_yes o11 2000 rfl hT2 rfl).mono ?_
              rintro e w12 ⟨rfl, v12, o12, _⟩
              have o13 := o12.alloc (.cells #[.int .i64 T2, .int .i64 4, .int .i64 1] 45)
              clear o11 o12
              go_wp2_with fail
              generalize w12.alloc (.cells #[.int .i64 T2, .int .i64 4, .int .i64 1] 45) = w13 at o13 ⊢
              with_reducible refine (fire_to o13 T2 H2.out G2).mono ?_
              rintro e w14 ⟨rfl, v14, o14, _⟩
              clear o13
              go_wp2_with fail
              with_reducible refine (read_to o14 4 16 (by omega) (by omega) rfl (y := 2) rfl).mono ?_
              rintro e w15 ⟨rfl, rfl⟩
              go_wp2_with fail
              with_reducible refine (known_any w14).mono ?_
              rintro e w18 ⟨rfl, hb18⟩
              have hbl := (o14.below hb18).bl
              go_wp2
              go_ret
              exact ⟨rfl, hbl⟩
end Go.Proofs.Ytamaonkepfkgnaa
