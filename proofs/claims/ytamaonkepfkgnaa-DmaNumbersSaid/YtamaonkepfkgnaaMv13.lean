/-
  Chapter 13: a number brought into bounds; Bytes into a row; the walk of DmaMoves.
-/
import Derived.Test.YtamaonkepfkgnaaOn13
import Derived.Deep.DeepCutAuto
import Derived.Deep.CutBlock
import Derived.Deep.RegionWith
namespace Go.Proofs.Ytamaonkepfkgnaa
open Go.RowKit
set_option linter.unusedVariables false
set_option linter.unusedSimpArgs false
/-- it returns a number from lo to hi, and the world stands -/
def InP (lo hi : Int) (w : World) (e : Ending) (w' : World) : Prop := ∃ v : Int, lo ≤ v ∧ v ≤ hi ∧ e = .returned (.int .i64 v) ∧ w = w'
theorem tmod_pos (n K : Int) (hK : 0 < K) : -K < n.tmod K ∧ n.tmod K < K := by
  by_cases h : 0 ≤ n
  · rw [Int.tmod_eq_emod_of_nonneg h]
    have := Int.emod_nonneg n (show K ≠ 0 by omega)
    have := Int.emod_lt_of_pos n hK
    omega
  · have e : n.tmod K = -((-n) % K) := by rw [← Int.tmod_eq_emod_of_nonneg (by omega), Int.neg_tmod]; omega
    have := Int.emod_nonneg (-n) (show K ≠ 0 by omega)
    have := Int.emod_lt_of_pos (-n) hK
    omega
set_option maxHeartbeats 400000 in
theorem within_any (n lo hi : Int) (w : World) (h0 : -1000000000 ≤ lo) (h1 : lo ≤ hi) (h2 : hi ≤ 1000000000) (n0 : -9223372036854775808 ≤ n) (n1 : n ≤ 9223372036854775807) :
    Calls Try.prog 13 #[.int .i64 n, .int .i64 lo, .int .i64 hi] w (InP lo hi w) := by
  by_cases hin : lo ≤ n ∧ n ≤ hi
  · obtain ⟨i0, i1⟩ := hin
    go_enter Try.func13, Try.ntmps13
    go_wp2
    go_ret
    exact ⟨n, i0, i1, rfl, rfl⟩
  · obtain ⟨t0, t1⟩ := tmod_pos n (hi - lo + 1) (by omega)
    have hd : (decide (lo ≤ n) && decide (n ≤ hi)) = false := by simp; omega
    by_cases hlo : lo ≤ n
    · have hh : ¬ n ≤ hi := by omega
      by_cases hneg : n.tmod (hi - lo + 1) < 0
      all_goals
        go_enter Try.func13, Try.ntmps13
        go_wp2
        go_ret
        exact ⟨_, by omega, by omega, rfl, rfl⟩
    · by_cases hneg : n.tmod (hi - lo + 1) < 0
      all_goals
        go_enter Try.func13, Try.ntmps13
        go_wp2
        go_ret
        exact ⟨_, by omega, by omega, rfl, rfl⟩

section
variable {w : World} {g b m t p : Nat} {C : Nat → Int} {M D : Nat → Bool}
set_option maxRecDepth 100000 in
set_option maxHeartbeats 1000000 in
theorem bytes_row (A N : Nat) (h : Mem 85 w g b m t p C M D) (hN : 0 < N) (hin2 : A + N ≤ 1024 * p) :
    Calls Try.prog 14 #[.pointer (some ⟨g, 0, none⟩), .int .u32 A, .int .i64 N] w fun e w' => ∃ X, w.heap.size ≤ X ∧ e = .returned (.tuple #[.slice (some ⟨X, 0, none⟩) N N, .bool true]) ∧ w'.rowIs X 5 N (fun i => .int .u8 (C (A + i))) ∧ Fr (fun _ => False) w w' := by
  have p2 := h.p2
  have c0 := h.cell0
  have HI : Hid (inB p A N = true) := by show _ = _; unfold inB; exact decide_eq_true (by omega)
  have hm1 := run_make_row' (P := Try.prog) 32 5 (.int .u8 0) 1 Try.underlying32 info_u8 rfl .i64 .i64 N (by omega) (by omega)
  have lg := h.st.lt
  have lb := h.hb.lt
  have hw := World.rowIs_made w (.int .u8 0) N 5
  have h2 := h.alloc (.cells (madeCells #[.int .u8 0] N) 5)
  have c0' := h2.cell0
  have hA2 : A < 1024 * p := by omega
  go_enter Try.func14, Try.ntmps14
  go_wp2_with fail
  refine (holds_any _ _ h (by omega) (by omega) (by omega) (by omega)).mono ?_
  rintro e w' ⟨rfl, rfl⟩
  rw [HI.out]
  go_wp2_with (with_reducible refine wpList_copy_row rfl (.tmp 16) (.tmp 22) 32 32 rfl 5 Try.underlying32 size_u8 _ _ _ _ _ _ rfl rfl w.heap.size 0 N 5 _ hw N ?hmin2 (fun i => .int .u8 (C (A + i))) ?hpos2 (by omega) (fun _ => rfl) ?_)
  case hmin2 => exact (Nat.min_eq_right (by omega)).symm
  case hpos2 => first | (intro _ j hj; exact h.hb.cell (i := A + j) (by omega)) | (intro j hj; exact h.hb.cell (i := A + j) (by omega))
  intro w1 hr1 hf1
  go_wp2
  go_ret2
  exact ⟨_, Nat.le_refl _, rfl, hr1.congr fun i hi => by simp [hi], fr_new hf1⟩
end
theorem mbytes_row {w : World} {r : Nat} {O : Nat → Prop} {p : Nat} {C : Nat → Int} (A N : Nat) (h : Ra 85 w r O p C) (hN : 0 < N) (hin : A + N ≤ 1024 * p) :
    Calls Try.prog 14 #[.pointer (some ⟨r, 0, none⟩), .int .u32 A, .int .i64 N] w fun e w' => ∃ X, w.heap.size ≤ X ∧ e = .returned (.tuple #[.slice (some ⟨X, 0, none⟩) N N, .bool true]) ∧ w'.rowIs X 5 N (fun i => .int .u8 (C (A + i))) ∧ Fr (fun _ => False) w w' := by
  obtain ⟨b, m, t, rfl, h⟩ := h
  exact bytes_row A N h hN hin
theorem mbytes_all {w : World} {r : Nat} {O : Nat → Prop} {C : Nat → Int} (h : Ra 85 w r O 1 C) :
    Calls Try.prog 14 #[.pointer (some ⟨r, 0, none⟩), .int .u32 0, .int .i64 1024] w fun e w' => ∃ X, w.heap.size ≤ X ∧ e = .returned (.tuple #[.slice (some ⟨X, 0, none⟩) 1024 1024, .bool true]) ∧ w'.rowIs X 5 1024 (fun i => .int .u8 (C (0 + i))) ∧ Fr (fun _ => False) w w' :=
  mbytes_row 0 1024 h (by omega) (by omega)
/-- a slice of bytes that came in, and its beginnings -/
def InBy (W : World) (A : Option Addr) (len cap : Nat) : Prop := ∃ f : Nat → Int, len ≤ cap ∧ len ≤ 9223372036854775807 ∧ ∀ m, m ≤ len → ByAt (fun k => k < W.heap.size) W (.slice A m cap) m f
/-- memory ahead of a move -/
def MC (n : Nat) (f : Nat → Int) : Nat → Int := uC 1 Z0 0 n f

theorem Ra.bd {T : TypeId} {w : World} {r : Nat} {O : Nat → Prop} {p : Nat} {C : Nat → Int} (h : Ra T w r O p C) (i : Nat) : 0 ≤ C i ∧ C i ≤ 255 := ⟨h.c0 i, h.c1 i⟩
theorem row_by {w : World} {X N : Nat} {f : Nat → Int} (h : w.rowIs X 5 N (fun i => .int .u8 (f i))) (hb : ∀ i, 0 ≤ f i ∧ f i ≤ 255) : ByAt (fun _ => True) w (.slice (some ⟨X, 0, none⟩) N N) N f :=
  .inr ⟨⟨X, 0, none⟩, N, rfl, Nat.le_refl _, fun _ => ⟨rfl, trivial⟩, fun i hi => ⟨by rw [add_none, Nat.zero_add]; exact h.cell hi, hb i⟩⟩
theorem ByAt.one {Q : Nat → Prop} {w : World} {v : Value} {n : Nat} {f : Nat → Int} (h : ByAt Q w v n f) : ∃ sp c, v = .slice sp n c ∧ (0 < n → ∃ ad, sp = some ad ∧ ∀ j, j < n → w.cell? (ad.add j) = some (.int .u8 (f j))) := by
  rcases h with ⟨c, rfl, rfl⟩ | ⟨ad, c, rfl, _, _, hi⟩
  · exact ⟨none, c, rfl, fun h => absurd h (by omega)⟩
  · exact ⟨some ad, c, rfl, fun _ => ⟨ad, rfl, fun j hj => (hi j hj).1⟩⟩
/-- memory's bytes as they must be behind a move -/
def wantF (C : Nat → Int) (F T K : Nat) : Nat → Int := fun i => if T ≤ i ∧ i < T + K then C (F + (i - T)) else C i
theorem want_got (C : Nat → Int) (F T K : Nat) (b : Bool) (q : Option (Int × Int)) (a : Int) : (fun i => movC ⟨F, T, K, b, false, false, q, a, C⟩ (0 + i)) = wantF C F T K := by
  funext i
  simp only [Nat.zero_add, wantF, movC, putC, Int.toNat_natCast]
theorem gbM {f t c a : Int} (b d e : Bool) (q : Option (Int × Int)) (C : Nat → Int) (ha : 0 ≤ a ∧ a ≤ 1000000) (hf : 0 ≤ f ∧ f < 4294967296) (ht : 0 ≤ t ∧ t < 4294967296) (hc : 0 ≤ c ∧ c < 4294967296) : Gb ⟨f, t, c, b, d, e, q, a, C⟩ := ⟨ha, hf.1, hf.2, ht.1, ht.2, hc.1, hc.2⟩
theorem wr_f (F : Int) (C : Nat → Int) : wrD 0 F 0 (S00 C) = ⟨F, 0, 0, false, false, false, none, 0, C⟩ := rfl
theorem wr_t (F T : Int) (C : Nat → Int) : wrD 1 T 0 ⟨F, 0, 0, false, false, false, none, 0, C⟩ = ⟨F, T, 0, false, false, false, none, 0, C⟩ := rfl
theorem wr_c (F T K : Int) (C : Nat → Int) : wrD 2 K 0 ⟨F, T, 0, false, false, false, none, 0, C⟩ = ⟨F, T, K, false, false, false, none, 0, C⟩ := rfl
theorem wr_g (F T K : Int) (C : Nat → Int) (hK : K ≤ 4096) : wrD 3 1 0 ⟨F, T, K, false, false, false, none, 0, C⟩ = ⟨F, T, K, true, false, false, some (K / 4 + 1, 0), 1, C⟩ := by
  show ctlD 1 0 _ = _
  unfold ctlD
  rw [if_pos ⟨rfl, rfl⟩]
  unfold startD dl
  show (⟨F, T, K, true, false, false, some (0 + (min K 4096 / 4 + 1), 0), 0 + 1, C⟩ : DS) = _
  rw [show min K 4096 = K by omega, Int.zero_add]
  rfl

set_option maxHeartbeats 4000000 in
set_option maxRecDepth 100000 in
theorem moves_walk (A : Option Addr) (len cap : Nat) (f0 t0 n : Int) (w : World) (HB : Hid (InBy w A len cap)) (f1 : 0 ≤ f0) (f2 : f0 < 4294967296) (t1 : 0 ≤ t0) (t2 : t0 < 4294967296) (n0 : -9223372036854775808 ≤ n) (n1 : n ≤ 9223372036854775807) :
    Calls Try.prog 5 #[.slice A len cap, .int .u32 f0, .int .u32 t0, .int .i64 n] w (RetB (.bool true) w) := by
  obtain ⟨f, hlc, hlm, hf⟩ := HB.out
  have HF := Lib.hid hf
  clear hf HB
  go_enter Try.func5, Try.ntmps5
  go_wp2_with fail
  refine (wnew_any w).mono ?_
  rintro e w1 ⟨g, hg, rfl, hw, hb⟩
  go_wp2_with fail
  with_reducible refine (mnew_any 1 1 rfl w1).mono ?_
  rintro e w2 ⟨r, O, rfl, ho, hm, hb2⟩
  have hw2 := hw.below hb2
  have hog : ¬ O g := fun e => by have := ho g e; have := hw.lt g (.inl rfl); omega
  go_wp2_with fail
  with_reducible refine (dnew_any 4 hw2 hm hog).mono ?_
  rintro e w3 ⟨x, hx, rfl, hD, hb3⟩
  have o3 : One w w3 x g r O 1 4 (.slice none 0 0) (S00 Z0) := One.new hg hb ho hb2 hx hD hb3
  clear hg hw hb ho hm hb2 hw2 hog hx hD hb3
  go_upto_if 44 with fail
  go_cut [0] (fun s wc => ∃ m : Nat, m ≤ 1024 ∧ m ≤ len ∧ s = .slice A m cap ∧ w3 = wc)
  case first =>
    by_cases h16 : len ≤ 1024
    · go_wp2_with fail
      go_meet
      exact ⟨len, h16, Nat.le_refl _, rfl, rfl⟩
    · go_wp2_with fail
      go_meet
      exact ⟨1024, Nat.le_refl _, by omega, rfl, rfl⟩
  case rest =>
    obtain ⟨m, h16, hml, rfl, rfl⟩ := hcut
    have hB3 : ByAt (fun k => k < w.heap.size) w3 (.slice A m cap) m f := (HF.out m hml).fr (S := fun _ => False) (Fr.of_below (o3.bl)) (fun _ _ _ => id)
    have HP : Hid (inB 1 0 (m : Int) = true) := by show _ = _; unfold inB; exact decide_eq_true (by omega)
    clear HF
    go_wp2_with fail
    with_reducible refine (put_to o3 0 (.slice A m cap) m f hB3 HP.out (S2 := S00 (MC m f)) rfl (by omega) (by omega) (by omega)).mono ?_
    rintro e w4 ⟨rfl, v4, o4, _⟩
    clear o3 hB3 HP
    go_upto_region 9 with fail
    go_cut [12, 13, 14] (fun s1 s2 s3 wc => ∃ F T K : Nat, F < 1000 ∧ T < 1000 ∧ F + K ≤ 1024 ∧ T + K ≤ 1024 ∧ s1 = .int .u32 F ∧ s2 = .int .u32 T ∧ s3 = .int .i64 K ∧ w4 = wc)
    case first =>
      go_wp2_with fail
      all_goals
        with_reducible refine (within_any n 0 _ w4 (by omega) (by omega) (by omega) n0 n1).mono ?_
        rintro e w5 ⟨k, k0, k1, rfl, rfl⟩
        go_wp2_with fail
        go_meet
        exact ⟨(f0 % 1000).toNat, (t0 % 1000).toNat, k.toNat, by omega, by omega, by omega, by omega, congrArg (Value.int .u32) (by omega), congrArg (Value.int .u32) (by omega), congrArg (Value.int .i64) (by omega), rfl⟩
    case rest =>
      clear n0 n1 f1 f2 t1 t2
      obtain ⟨F, T, K, hF, hT, hFK, hTK, rfl, rfl, rfl, rfl⟩ := hcut
      obtain ⟨C, hC⟩ : ∃ C, MC m f = C := ⟨_, rfl⟩
      rw [hC] at o4
      clear hC
      go_wp2_with fail
      with_reducible refine (mbytes_all o4.dm.mm).mono ?_
      rintro e w5 ⟨X, hX, rfl, hr5, hf5⟩
      have o5 := o4.no hf5
      have x5 := o4.rw hr5 hX
      have lX := Nat.le_trans o4.bl.size hX
      clear o4 hX hr5 hf5
      have hin : inB 1 F K = true := by unfold inB; exact decide_eq_true (by omega)
      have hcn : cnt 1 F K = K := by unfold cnt; rw [hin]; rfl
      go_wp2_with fail
      with_reducible refine (mbytes_any F K o5.dm.mm (by omega) (by omega) (by omega) (by omega)).mono ?_
      rintro e w6 ⟨u, rfl, hB, hf6⟩
      rw [hcn, hin] at *
      have o6 := o5.no hf6
      have x6 := x5.keep hf6 id
      obtain ⟨sp, cp, rfl, hsp⟩ := hB.one
      have HS := Lib.hid hsp
      have HK : ((K : Int) != (K : Int)) = false := bne_self_eq_false _
      clear o5 x5 hf6 hB hsp hcn hin
      have cT := x6.row
      go_wp2_with (with_reducible refine wpList_copy_row rfl (.tmp 84) (.tmp 85) 32 32 rfl 5 Try.underlying32 size_u8 _ _ _ _ _ _ rfl rfl X T 1024 5 _ cT K ?hmin (fun i => .int .u8 (C (F + i))) ?hpos (by omega) (fun _ => rfl) ?_)
      case hmin => exact (Nat.min_eq_left (by omega)).symm
      case hpos => exact HS.out
      intro w7 hr7 hf7
      have o7 := o6.other hf7 x6.no lX
      have x7 : Asd w7 x g O v4 X 5 1024 (fun i => .int .u8 (wantF C F T K i)) := ⟨hr7.congr fun i _ => by simp only [wantF]; split <;> rfl, x6.no⟩
      have hCb := o7.dm.mm.bd
      have l1 : (0 : Int) ≤ F ∧ (F : Int) < 4294967296 := by omega
      have l2 : (0 : Int) ≤ T ∧ (T : Int) < 4294967296 := by omega
      have l3 : (0 : Int) ≤ K ∧ (K : Int) < 4294967296 := by omega
      have lz : (0 : Int) ≤ 0 ∧ (0 : Int) < 4294967296 := by decide
      have la : (0 : Int) ≤ 0 ∧ (0 : Int) ≤ 1000000 := by decide
      have lb : (0 : Int) ≤ 1 ∧ (1 : Int) ≤ 1000000 := by decide
      have G0 : Gb (S00 C) := gbM false false false none C la lz lz lz
      have G1 : Gb ⟨F, 0, 0, false, false, false, none, 0, C⟩ := gbM _ _ _ _ _ la l1 lz lz
      have G2 : Gb ⟨F, T, 0, false, false, false, none, 0, C⟩ := gbM _ _ _ _ _ la l1 l2 lz
      have G3 : Gb ⟨F, T, K, false, false, false, none, 0, C⟩ := gbM _ _ _ _ _ la l1 l2 l3
      have G4 : Gb ⟨F, T, K, true, false, false, none, 1, C⟩ := gbM _ _ _ _ _ lb l1 l2 l3
      obtain ⟨Tm, HT⟩ : ∃ Tm : Int, Hid ((K : Int) / 4 + 1 = Tm) := ⟨_, Lib.hid rfl⟩
      have H4 : Hid (wrD 3 1 0 ⟨F, T, K, false, false, false, none, 0, C⟩ = ⟨F, T, K, true, false, false, some (Tm, 0), 1, C⟩) := by show _ = _; rw [← HT.out]; exact wr_g F T K C (by omega)
      have HM : movB 1 ⟨F, T, K, true, false, false, none, 1, C⟩ = true := by
        unfold movB inB
        show (decide ((K : Int) ≤ 4096) && (decide (0 ≤ (K : Int) ∧ (F : Int) + K ≤ 1024 * (1 : Nat)) && decide (0 ≤ (K : Int) ∧ (T : Int) + K ≤ 1024 * (1 : Nat)))) = true
        rw [decide_eq_true (show (K : Int) ≤ 4096 by omega), decide_eq_true (show 0 ≤ (K : Int) ∧ (F : Int) + K ≤ 1024 * (1 : Nat) by omega), decide_eq_true (show 0 ≤ (K : Int) ∧ (T : Int) + K ≤ 1024 * (1 : Nat) by omega)]
        rfl
      have H5 : Hid (fiD 1 ⟨F, T, K, true, false, false, none, 1, C⟩ = ⟨F, T, K, false, true, false, none, 1, movC ⟨F, T, K, true, false, false, none, 1, C⟩⟩) := by show _ = _; unfold fiD; rw [HM]
      have HG := Lib.hid (want_got C F T K true none 1)
      clear o6 x6 cT hr7 hf7 HS HM hF hT hFK hTK lX HK
      go_wp2_with fail
      with_reducible refine (write_to o7 0 0 F (by omega) (by omega) rfl (wr_f F C) G0 l1.1 l1.2 (by omega) (by omega)).mono ?_
      rintro e w8 ⟨rfl, v8, o8, c8⟩
      have x8 := x7.step c8
      clear o7 x7 c8
      go_wp2_with fail
      with_reducible refine (write_to o8 1 4 T (by omega) (by omega) rfl (wr_t F T C) G1 l2.1 l2.2 (by omega) (by omega)).mono ?_
      rintro e w9 ⟨rfl, v9, o9, c9⟩
      have x9 := x8.step c9
      clear o8 x8 c9
      go_wp2_with fail
      with_reducible refine (write_to o9 2 8 K (by omega) (by omega) rfl (wr_c F T K C) G2 l3.1 l3.2 (by omega) (by omega)).mono ?_
      rintro e w10 ⟨rfl, v10, o10, c10⟩
      have x10 := x9.step c10
      clear o9 x9 c10
      go_wp2_with fail
      with_reducible refine (write_to o10 3 12 1 (by omega) (by omega) rfl H4.out G3 (by omega) (by omega) (by omega) (by omega)).mono ?_
      rintro e w11 ⟨rfl, v11, o11, c11⟩
      have x11 := x10.step c11
      clear o10 x10 c11
      go_wp2_with fail
      rw [HT.out]
      with_reducible refine (take_yes o11 Tm rfl (Int.le_refl _) rfl).mono ?_
      rintro e w12 ⟨rfl, v12, o12, c12⟩
      have x12 := x11.step c12
      have o13 := o12.alloc (.cells #[.int .i64 Tm, .int .i64 4, .int .i64 0] 45)
      have x13 := x12.alloc (.cells #[.int .i64 Tm, .int .i64 4, .int .i64 0] 45)
      have b13 : Asd (w12.alloc (.cells #[.int .i64 Tm, .int .i64 4, .int .i64 0] 45)) x g O v12 w12.heap.size 45 3 (three ⟨Tm, 4, 0⟩) := o12.rw (ev_row w12 ⟨Tm, 4, 0⟩) (Nat.le_refl _)
      clear o11 x11 c12 o12 x12
      go_wp2_with fail
      generalize w12.alloc (.cells #[.int .i64 Tm, .int .i64 4, .int .i64 0] 45) = w13 at o13 x13 b13 ⊢
      generalize w12.heap.size = B at b13 ⊢
      with_reducible refine (take_no o13 1073741824 rfl).mono ?_
      rintro e w14 ⟨rfl, v14, o14, c14⟩
      have x15 := (x13.step c14).alloc (.cells #[.int .i64 0, .int .i64 0, .int .i64 0] 45)
      have b15 := (b13.step c14).alloc (.cells #[.int .i64 0, .int .i64 0, .int .i64 0] 45)
      have o15 := o14.alloc (.cells #[.int .i64 0, .int .i64 0, .int .i64 0] 45)
      have e15 : (w14.alloc (.cells #[.int .i64 0, .int .i64 0, .int .i64 0] 45)).cell? ⟨B, 0, none⟩ = some (.int .i64 Tm) := b15.row.cell (i := 0) (by omega)
      clear o13 x13 b13 o14 c14 b15
      go_wp2_with fail
      generalize w14.alloc (.cells #[.int .i64 0, .int .i64 0, .int .i64 0] 45) = w15 at o15 x15 e15 ⊢
      with_reducible refine (fire_to o15 Tm H5.out G4).mono ?_
      rintro e w16 ⟨rfl, v16, o16, c16⟩
      have x16 := x15.step c16
      clear o15 x15 e15 c16
      go_wp2_with fail
      with_reducible refine (mbytes_all o16.dm.mm).mono ?_
      rintro e w17 ⟨Y, hY, rfl, hr17, hf17⟩
      have o17 := o16.no hf17
      have x17 := x16.keep hf17 id
      have hb17 := o17.dm.mm.bd
      clear o16 x16 hf17 hY
      go_wp2_with fail
      with_reducible refine (read_to o17 4 16 (by omega) (by omega) rfl (y := 2) rfl).mono ?_
      rintro e w18 ⟨rfl, rfl⟩
      have k1 : (convert 32 9 (.slice (some ⟨Y, 0, none⟩) 1024 1024)).run Try.prog w17 = .ok (.string (strN 1024 (wantF C F T K))) w17 := by
        rw [← HG.out]
        exact conv_any (row_by hr17 (fun i => hb17 (0 + i)))
      have k2 : (convert 32 9 (.slice (some ⟨X, 0, none⟩) 1024 1024)).run Try.prog w17 = .ok (.string (strN 1024 (wantF C F T K))) w17 :=
        conv_any (row_by x17.row (fun i => by unfold wantF; split <;> exact hCb _))
      clear hr17 x17 hb17 H4 H5 HG HT hCb
      go_wp2_with fail
      with_reducible refine (known_any w17).mono ?_
      rintro e w18 ⟨rfl, hb18⟩
      have hbl := (o17.below hb18).bl
      go_wp2
      go_ret
      exact ⟨rfl, hbl⟩
end Go.Proofs.Ytamaonkepfkgnaa
