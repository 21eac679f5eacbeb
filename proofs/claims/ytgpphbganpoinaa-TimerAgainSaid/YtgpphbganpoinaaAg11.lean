/-
  Chapter 11: the walk of TimerAgain.
-/
import Derived.Test.YtgpphbganpoinaaKn11
namespace Go.Proofs.Ytgpphbganpoinaa
open Go.RowKit
set_option linter.unusedVariables false
set_option linter.unusedSimpArgs false
theorem due_p (now p : Int) (hp : 1 ≤ p) : due now p = now + p := by unfold due; rw [if_neg (by omega)]
theorem wr_go (v : Int) (ag : Bool) (p : Int) (hp : 1 ≤ p) (hv : v = 1 ∧ ag = false ∨ v = 3 ∧ ag = true) : wrT 0 v 0 ⟨false, false, false, p, none, 0⟩ = ⟨true, ag, false, p, some (p, 0), 1⟩ := by
  have e : due 0 p = p := by rw [due_p 0 p hp]; omega
  rcases hv with ⟨rfl, rfl⟩ | ⟨rfl, rfl⟩
  · show (⟨true, false, false, p, some (due 0 p, 0), 1⟩ : TS) = _
    rw [e]
  · show (⟨true, true, false, p, some (due 0 p, 0), 1⟩ : TS) = _
    rw [e]
theorem gd_p (p : Int) (r ag s : Bool) (q : Option (Int × Int)) (a : Int) (hp : 1 ≤ p) (hp2 : p ≤ 100) (ha : 0 ≤ a ∧ a ≤ 1000) (hq : ∀ x s, q = some (x, s) → 0 ≤ x) : Gd 1000 ⟨r, ag, s, p, q, a⟩ := ⟨ha.1, ha.2, by show 0 ≤ p; omega, by show p < 4294967296; omega, hq⟩
theorem quo_at {n p T c : Int} (hp : 1 ≤ p) (hn : 0 ≤ n) (hT : T = (c + 1) * p) (h1 : T - p ≤ n) (h2 : n < T) : n.tdiv p = c := by
  rw [Int.tdiv_eq_ediv_of_nonneg hn]
  have e : c * p = T - p := by rw [hT, Int.add_mul, Int.one_mul]; omega
  exact Int.le_antisymm (Int.lt_add_one_iff.1 (Int.ediv_lt_of_lt_mul (by omega) (by rw [← hT]; exact h2))) (Int.le_ediv_of_mul_le (by omega) (by rw [e]; exact h1))

set_option maxHeartbeats 4000000 in
set_option maxRecDepth 100000 in
theorem again_walk (a0 : Int) (a1 : Bool) (a2 : Int) (w : World) (h0 : 0 ≤ a0) (h1 : a0 < 4294967296) (s0 : -9223372036854775808 ≤ a2) (s1 : a2 ≤ 9223372036854775807) :
    Calls Try.prog 5 #[.int .u32 a0, .bool a1, .int .i64 a2] w (RetB (.bool true) w) := by
  obtain ⟨p, HP, p0, p1⟩ : ∃ p, Hid (a0 % 20 + 1 = p) ∧ 1 ≤ p ∧ p ≤ 20 := ⟨_, Lib.hid rfl, by omega, by omega⟩
  have hpn : ¬ p = 0 := by omega
  have H1 := Lib.hid (wr_p p)
  have G1 : Gd 1000 ⟨false, false, false, p, none, 0⟩ := gd_p p _ _ _ _ _ p0 (by omega) (by omega) (fun _ _ e => by cases e)
  cases a1
  · have H2 := Lib.hid (wr_go 1 false p p0 (.inl ⟨rfl, rfl⟩))
    go_enter Try.func5, Try.ntmps5
    go_wp2_with fail
    refine (wnew_any w).mono ?_
    rintro e w1 ⟨g, hg, rfl, hw, hb⟩
    go_wp2_with fail
    with_reducible refine (tnew_any 1 hw).mono ?_
    rintro e w2 ⟨t, ht, rfl, hT, hb2⟩
    have o2 := One.new hg hb ht hT hb2
    clear hg hw hb ht hT hb2
    go_wp2_with fail
    rw [HP.out]
    with_reducible refine (write_to o2 1 4 p 0 (by omega) (by omega) rfl H1.out (by omega) (by omega) gd0 (by omega) (by omega) (by omega) (by omega)).mono ?_
    rintro e w3 ⟨rfl, v3, o3⟩
    clear o2
    go_wp2_with fail
    with_reducible refine (write_to o3 0 0 1 0 (by omega) (by omega) rfl H2.out (by omega) (by omega) G1 (by omega) (by omega) (by omega) (by omega)).mono ?_
    rintro e w4 ⟨rfl, v4, o4⟩
    clear o3
    go_wp2_with fail
    with_reducible refine (within_any a2 1 100 w4 (by omega) (by omega) (by omega) s0 s1).mono ?_
    rintro e w5 ⟨z, z0, z1, rfl, rfl⟩
    obtain ⟨n, hn, rfl⟩ : ∃ n : Nat, n ≤ 100 ∧ z = (n : Int) := ⟨z.toNat, by omega, by omega⟩
    go_wp2_with fail
    go_loopw [12, 13] (fun c i wr => ∃ (now : Nat) (v' : Value), i = .int .i64 now ∧ now ≤ n + 1 ∧ ((c = .int .i64 0 ∧ now ≤ p ∧ One w wr t g 1 v' ⟨true, false, false, p, some (p, 0), 1⟩) ∨ (c = .int .i64 1 ∧ p < now ∧ One w wr t g 1 v' ⟨false, false, true, p, none, 1⟩))) (fun _ i _ => n + 1 - (intOf i).toNat)
    case atStart => exact ⟨0, v4, rfl, by omega, .inl ⟨rfl, by omega, o4⟩⟩
    case round =>
      clear o4
      obtain ⟨now, v5, rfl, hnow, hor⟩ := hrel
      by_cases hlt : now ≤ n
      · have hltI : (now : Int) ≤ n := by omega
        rcases hor with ⟨rfl, hp, o5⟩ | ⟨rfl, hp, o5⟩
        · by_cases hd : p = now
          · subst hd
            have hr : (now : Int).tmod now = 0 := Int.tmod_self
            have H5 : Hid (fiT now ⟨true, false, false, (now : Int), none, 1⟩ = ⟨false, false, true, (now : Int), none, 1⟩) := Lib.hid rfl
            have G5 : Gd 1000 ⟨true, false, false, (now : Int), none, 1⟩ := gd_p now _ _ _ _ _ p0 (by omega) (by omega) (fun _ _ e => by cases e)
            go_wp2_with fail
            with_reducible refine (take_yes o5 now rfl (Int.le_refl _) rfl).mono ?_
            rintro e w6 ⟨rfl, v6, o6⟩
            have o7 := o6.alloc (.cells #[.int .i64 now, .int .i64 1, .int .i64 0] 37)
            clear o5 o6
            go_wp2_with fail
            with_reducible refine (fire_to o7 now H5.out G5 (by omega) (by omega) (by omega) (by omega)).mono ?_
            rintro e w8 ⟨rfl, v8, o8⟩
            go_wp2_with fail
            go_roundw
            case rel => exact ⟨now + 1, v8, by go_num, by omega, .inr ⟨by go_num, by omega, o8⟩⟩
            case measure => simp [intOf]; omega
          · have hdu : duB now ⟨true, false, false, p, some (p, 0), 1⟩ = false := decide_eq_false (show ¬ p ≤ now by omega)
            go_wp2_with fail
            with_reducible refine (take_no o5 now hdu).mono ?_
            rintro e w6 ⟨rfl, v6, o6⟩
            have o7 := o6.alloc (.cells #[.int .i64 0, .int .i64 0, .int .i64 0] 37)
            clear o5 o6 hdu
            go_wp2_with fail
            go_roundw
            case rel => exact ⟨now + 1, v6, by go_num, by omega, .inl ⟨rfl, by omega, o7⟩⟩
            case measure => simp [intOf]; omega
        · have hdu : duB now ⟨false, false, true, p, none, 1⟩ = false := rfl
          go_wp2_with fail
          with_reducible refine (take_no o5 now hdu).mono ?_
          rintro e w6 ⟨rfl, v6, o6⟩
          have o7 := o6.alloc (.cells #[.int .i64 0, .int .i64 0, .int .i64 0] 37)
          clear o5 o6 hdu
          go_wp2_with fail
          go_roundw
          case rel => exact ⟨now + 1, v6, by go_num, by omega, .inr ⟨rfl, by omega, o7⟩⟩
          case measure => simp [intOf]; omega
      · have hltI : ¬ (now : Int) ≤ n := by omega
        rcases hor with ⟨rfl, hp, o5⟩ | ⟨rfl, hp, o5⟩
        · have hq : (n : Int).tdiv p = 0 := quo_at (T := p) p0 (by omega) (by omega) (by omega) (by omega)
          clear hlt
          go_wp2_with fail
          with_reducible refine (line_to o5 rfl).mono ?_
          rintro e w7 ⟨rfl, rfl⟩
          go_wp2_with fail
          refine (known_any _).mono ?_
          rintro e w8 ⟨rfl, hb8⟩
          go_wp2
          go_ret
          exact ⟨rfl, (o5.below hb8).bl⟩
        · obtain ⟨D, hD, hq⟩ : ∃ D : Int, 1 ≤ D ∧ (n : Int).tdiv p = D := ⟨_, by rw [Int.tdiv_eq_ediv_of_nonneg (by omega)]; exact Int.le_ediv_of_mul_le (by omega) (by omega), rfl⟩
          have hD2 : D ≤ 100 := by
            have h1 : (n : Int).tdiv p ≤ n := by rw [Int.tdiv_eq_ediv_of_nonneg (by omega)]; exact Int.ediv_le_self _ (by omega)
            omega
          clear hlt
          by_cases hD1 : D = 1
          · subst hD1
            go_wp2_with fail
            with_reducible refine (line_to o5 rfl).mono ?_
            rintro e w7 ⟨rfl, rfl⟩
            go_wp2_with fail
            refine (known_any _).mono ?_
            rintro e w8 ⟨rfl, hb8⟩
            go_wp2
            go_ret
            exact ⟨rfl, (o5.below hb8).bl⟩
          · have hD3 : ¬ D ≤ 1 := by omega
            clear hD hD1
            go_wp2_with fail
            with_reducible refine (line_to o5 rfl).mono ?_
            rintro e w7 ⟨rfl, rfl⟩
            go_wp2_with fail
            refine (known_any _).mono ?_
            rintro e w8 ⟨rfl, hb8⟩
            go_wp2
            go_ret
            exact ⟨rfl, (o5.below hb8).bl⟩
  · have H2 := Lib.hid (wr_go 3 true p p0 (.inr ⟨rfl, rfl⟩))
    go_enter Try.func5, Try.ntmps5
    go_wp2_with fail
    refine (wnew_any w).mono ?_
    rintro e w1 ⟨g, hg, rfl, hw, hb⟩
    go_wp2_with fail
    with_reducible refine (tnew_any 1 hw).mono ?_
    rintro e w2 ⟨t, ht, rfl, hT, hb2⟩
    have o2 := One.new hg hb ht hT hb2
    clear hg hw hb ht hT hb2
    go_wp2_with fail
    rw [HP.out]
    with_reducible refine (write_to o2 1 4 p 0 (by omega) (by omega) rfl H1.out (by omega) (by omega) gd0 (by omega) (by omega) (by omega) (by omega)).mono ?_
    rintro e w3 ⟨rfl, v3, o3⟩
    clear o2
    go_wp2_with fail
    with_reducible refine (write_to o3 0 0 3 0 (by omega) (by omega) rfl H2.out (by omega) (by omega) G1 (by omega) (by omega) (by omega) (by omega)).mono ?_
    rintro e w4 ⟨rfl, v4, o4⟩
    clear o3
    go_wp2_with fail
    with_reducible refine (within_any a2 1 100 w4 (by omega) (by omega) (by omega) s0 s1).mono ?_
    rintro e w5 ⟨z, z0, z1, rfl, rfl⟩
    obtain ⟨n, hn, rfl⟩ : ∃ n : Nat, n ≤ 100 ∧ z = (n : Int) := ⟨z.toNat, by omega, by omega⟩
    go_wp2_with fail
    go_loopw [12, 13] (fun c i wr => ∃ (cn now : Nat) (v' : Value) (T : Int), c = .int .i64 cn ∧ i = .int .i64 now ∧ now ≤ n + 1 ∧ cn ≤ now ∧ Hid (T = ((cn : Int) + 1) * p) ∧ (cn = 0 ∧ T = p ∨ T - p < now) ∧ now ≤ T ∧ One w wr t g 1 v' ⟨true, true, decide (0 < cn), p, some (T, (cn : Int)), (cn : Int) + 1⟩) (fun _ i _ => n + 1 - (intOf i).toNat)
    case atStart => exact ⟨0, 0, v4, p, rfl, rfl, by omega, by omega, Lib.hid (by omega), .inl ⟨rfl, rfl⟩, by omega, o4⟩
    case round =>
      clear o4
      obtain ⟨cn, now, v5, T, rfl, rfl, hnow, hcn, HT, hTp, hTn, o5⟩ := hrel
      have hT200 : T ≤ 200 := by omega
      by_cases hlt : now ≤ n
      · have hltI : (now : Int) ≤ n := by omega
        by_cases hd : T = now
        · subst hd
          have hr : (now : Int).tmod p = 0 := by rw [HT.out]; exact Int.mul_tmod_left _ _
          have H5 : Hid (fiT now ⟨true, true, decide (0 < cn), p, none, (cn : Int) + 1⟩ = ⟨true, true, decide (0 < cn + 1), p, some ((now : Int) + p, ((cn + 1 : Nat) : Int)), ((cn + 1 : Nat) : Int) + 1⟩) := by
            show (⟨true, true, true, p, some (due now p, (cn : Int) + 1), (cn : Int) + 1 + 1⟩ : TS) = _
            rw [due_p _ _ p0, decide_eq_true (show 0 < cn + 1 by omega)]
            rfl
          have HT2 : Hid ((now : Int) + p = (((cn + 1 : Nat) : Int) + 1) * p) := by show _ = _; rw [Int.add_mul, Int.one_mul, show ((cn + 1 : Nat) : Int) = (cn : Int) + 1 from rfl, ← HT.out]
          have G5 : Gd 1000 ⟨true, true, decide (0 < cn), p, none, (cn : Int) + 1⟩ := gd_p p _ _ _ _ _ p0 (by omega) (by omega) (fun _ _ e => by cases e)
          go_wp2_with fail
          with_reducible refine (take_yes o5 now rfl (Int.le_refl _) rfl).mono ?_
          rintro e w6 ⟨rfl, v6, o6⟩
          have o7 := o6.alloc (.cells #[.int .i64 now, .int .i64 1, .int .i64 cn] 37)
          clear o5 o6
          go_wp2_with fail
          with_reducible refine (fire_to o7 now H5.out G5 (by omega) (by omega) (by omega) (by omega)).mono ?_
          rintro e w8 ⟨rfl, v8, o8⟩
          go_wp2_with fail
          go_roundw
          case rel => exact ⟨cn + 1, now + 1, v8, _, by go_num, by go_num, by omega, by omega, HT2, .inr (by omega), by omega, o8⟩
          case measure => simp [intOf]; omega
        · have hdu : duB now ⟨true, true, decide (0 < cn), p, some (T, (cn : Int)), (cn : Int) + 1⟩ = false := decide_eq_false (show ¬ T ≤ now by omega)
          go_wp2_with fail
          with_reducible refine (take_no o5 now hdu).mono ?_
          rintro e w6 ⟨rfl, v6, o6⟩
          have o7 := o6.alloc (.cells #[.int .i64 0, .int .i64 0, .int .i64 0] 37)
          clear o5 o6 hdu
          go_wp2_with fail
          go_roundw
          case rel => exact ⟨cn, now + 1, v6, T, rfl, by go_num, by omega, by omega, HT, by omega, by omega, o7⟩
          case measure => simp [intOf]; omega
      · have hltI : ¬ (now : Int) ≤ n := by omega
        have hq : (n : Int).tdiv p = cn := quo_at p0 (by omega) HT.out (by omega) (by omega)
        by_cases hc : 0 < cn
        · have hcI : (0 : Int) < cn := by omega
          have hln := decide_eq_true hc
          clear hTp hTn hlt hc
          go_wp2_with fail
          with_reducible refine (line_to o5 hln).mono ?_
          rintro e w7 ⟨rfl, rfl⟩
          go_wp2_with fail
          refine (known_any _).mono ?_
          rintro e w8 ⟨rfl, hb8⟩
          go_wp2
          go_ret
          exact ⟨rfl, (o5.below hb8).bl⟩
        · have hcI : ¬ (0 : Int) < cn := by omega
          have hln := decide_eq_false hc
          clear hTp hTn hlt hc
          go_wp2_with fail
          with_reducible refine (line_to o5 hln).mono ?_
          rintro e w7 ⟨rfl, rfl⟩
          go_wp2_with fail
          refine (known_any _).mono ?_
          rintro e w8 ⟨rfl, hb8⟩
          go_wp2
          go_ret
          exact ⟨rfl, (o5.below hb8).bl⟩
end Go.Proofs.Ytgpphbganpoinaa
