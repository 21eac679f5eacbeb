/-
  Chapter 11: the walk of TimerStops.
-/
import Derived.Test.YtgpphbganpoinaaAg11
namespace Go.Proofs.Ytgpphbganpoinaa
open Go.RowKit
set_option linter.unusedVariables false
set_option linter.unusedSimpArgs false
set_option maxHeartbeats 4000000 in
set_option maxRecDepth 100000 in
theorem stops_walk (a0 a1 : Int) (w : World) (h0 : 0 ≤ a0) (h1 : a0 < 4294967296) (s0 : -9223372036854775808 ≤ a1) (s1 : a1 ≤ 9223372036854775807) :
    Calls Try.prog 6 #[.int .u32 a0, .int .i64 a1] w (RetB (.bool true) w) := by
  obtain ⟨p, HP, p0, p1⟩ : ∃ p, Hid (a0 % 30 + 2 = p) ∧ 2 ≤ p ∧ p ≤ 31 := ⟨_, Lib.hid rfl, by omega, by omega⟩
  have hpn : ¬ p = 0 := by omega
  have p2 : 1 ≤ p := by omega
  obtain ⟨r0, r1⟩ := tmod_pos a1 p (by omega)
  obtain ⟨kk, HK, k0, k1⟩ : ∃ kk, Hid ((a1.tmod p + p) % p = kk) ∧ 0 ≤ kk ∧ kk < p := ⟨_, Lib.hid rfl, Int.emod_nonneg _ hpn, Int.emod_lt_of_pos _ (by omega)⟩
  have H1 := Lib.hid (wr_p p)
  have G1 : Gd 1000 ⟨false, false, false, p, none, 0⟩ := gd_p p _ _ _ _ _ p2 (by omega) (by omega) (fun _ _ e => by cases e)
  have H2 := Lib.hid (wr_go 3 true p p2 (.inr ⟨rfl, rfl⟩))
  have G2 : Gd 1000 ⟨true, true, false, p, some (p, 0), 1⟩ := gd_p p _ _ _ _ _ p2 (by omega) (by omega) (fun _ _ e => by cases e; omega)
  have H3 : Hid (wrT 0 0 kk ⟨true, true, false, p, some (p, 0), 1⟩ = ⟨false, false, false, p, none, 1⟩) := Lib.hid rfl
  have G3 : Gd 1000 ⟨false, false, false, p, none, 1⟩ := gd_p p _ _ _ _ _ p2 (by omega) (by omega) (fun _ _ e => by cases e)
  have H4 : Hid (wrT 0 1 100 ⟨false, false, false, p, none, 1⟩ = ⟨true, false, false, p, some (100 + p, 1), 2⟩) := by
    show (⟨true, false, false, p, some (due 100 p, 1), 2⟩ : TS) = _
    rw [due_p 100 p p2]
  have H5 : Hid (fiT (100 + p) ⟨true, false, false, p, none, 2⟩ = ⟨false, false, true, p, none, 2⟩) := Lib.hid rfl
  have G5 : Gd 1000 ⟨true, false, false, p, none, 2⟩ := gd_p p _ _ _ _ _ p2 (by omega) (by omega) (fun _ _ e => by cases e)
  have H6 : Hid (wrT 2 2 0 ⟨false, false, true, p, none, 2⟩ = ⟨false, false, true, p, none, 2⟩) := Lib.hid rfl
  have G6 : Gd 1000 ⟨false, false, true, p, none, 2⟩ := gd_p p _ _ _ _ _ p2 (by omega) (by omega) (fun _ _ e => by cases e)
  have H7 : Hid (wrT 2 1 0 ⟨false, false, true, p, none, 2⟩ = ⟨false, false, false, p, none, 2⟩) := Lib.hid rfl
  go_enter Try.func6, Try.ntmps6
  go_wp2_with fail
  refine (wnew_any w).mono ?_
  rintro e w1 ⟨g, hg, rfl, hw, hb⟩
  go_wp2_with fail
  with_reducible refine (tnew_any 2 hw).mono ?_
  rintro e w2 ⟨t, ht, rfl, hT, hb2⟩
  have o2 := One.new hg hb ht hT hb2
  clear hg hw hb ht hT hb2
  go_upto_region 6 with fail
  rw [HP.out]
  go_wp2_with fail
  rw [HK.out]
  with_reducible refine (write_to o2 1 4 p 0 (by omega) (by omega) rfl H1.out (by omega) (by omega) gd0 (by omega) (by omega) (by omega) (by omega)).mono ?_
  rintro e w3 ⟨rfl, v3, o3⟩
  clear o2
  go_wp2_with fail
  with_reducible refine (write_to o3 0 0 3 0 (by omega) (by omega) rfl H2.out (by omega) (by omega) G1 (by omega) (by omega) (by omega) (by omega)).mono ?_
  rintro e w4 ⟨rfl, v4, o4⟩
  clear o3
  go_wp2_with fail
  with_reducible refine (write_to o4 0 0 0 kk (by omega) (by omega) rfl H3.out (by omega) (by omega) G2 (by omega) (by omega) (by omega) (by omega)).mono ?_
  rintro e w5 ⟨rfl, v5, o5⟩
  clear o4
  go_wp2_with fail
  with_reducible refine (take_no o5 1000 rfl).mono ?_
  rintro e w6 ⟨rfl, v6, o6⟩
  have o7 := o6.alloc (.cells #[.int .i64 0, .int .i64 0, .int .i64 0] 37)
  clear o5 o6
  go_wp2_with fail
  with_reducible refine (line_to o7 rfl).mono ?_
  rintro e w8 ⟨rfl, rfl⟩
  go_wp2_with fail
  with_reducible refine (write_to o7 0 0 1 100 (by omega) (by omega) rfl H4.out (by omega) (by omega) G3 (by omega) (by omega) (by omega) (by omega)).mono ?_
  rintro e w9 ⟨rfl, v9, o9⟩
  clear o7
  go_wp2_with fail
  with_reducible refine (take_yes o9 (100 + p) rfl (Int.le_refl _) rfl).mono ?_
  rintro e w10 ⟨rfl, v10, o10⟩
  have o11 := o10.alloc (.cells #[.int .i64 (100 + p), .int .i64 2, .int .i64 1] 37)
  clear o9 o10
  go_wp2_with fail
  with_reducible refine (fire_to o11 (100 + p) H5.out G5 (by omega) (by omega) (by omega) (by omega)).mono ?_
  rintro e w12 ⟨rfl, v12, o12⟩
  clear o11
  go_wp2_with fail
  with_reducible refine (line_to o12 rfl).mono ?_
  rintro e w13 ⟨rfl, rfl⟩
  go_wp2_with fail
  with_reducible refine (write_to o12 2 8 2 0 (by omega) (by omega) rfl H6.out (by omega) (by omega) G6 (by omega) (by omega) (by omega) (by omega)).mono ?_
  rintro e w14 ⟨rfl, v14, o14⟩
  clear o12
  go_wp2_with fail
  with_reducible refine (line_to o14 rfl).mono ?_
  rintro e w15 ⟨rfl, rfl⟩
  go_wp2_with fail
  with_reducible refine (write_to o14 2 8 1 0 (by omega) (by omega) rfl H7.out (by omega) (by omega) G6 (by omega) (by omega) (by omega) (by omega)).mono ?_
  rintro e w16 ⟨rfl, v16, o16⟩
  clear o14
  go_wp2_with fail
  with_reducible refine (line_to o16 rfl).mono ?_
  rintro e w17 ⟨rfl, rfl⟩
  go_wp2_with fail
  with_reducible refine (read_to o16 0 0 (by omega) (by omega) rfl rfl).mono ?_
  rintro e w18 ⟨rfl, rfl⟩
  go_wp2_with fail
  with_reducible refine (take_no o16 1073741824 rfl).mono ?_
  rintro e w19 ⟨rfl, v19, o19⟩
  have o20 := o19.alloc (.cells #[.int .i64 0, .int .i64 0, .int .i64 0] 37)
  clear o16 o19
  go_wp2_with fail
  refine (known_any _).mono ?_
  rintro e w21 ⟨rfl, hb21⟩
  go_wp2
  go_ret
  exact ⟨rfl, (o20.below hb21).bl⟩
end Go.Proofs.Ytgpphbganpoinaa
