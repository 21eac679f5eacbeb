/-
  Chapter 12: the walk of UartOrder.
-/
import Derived.Test.YtmmikcpkaehooaaBl12
import Derived.Deep.DeepCutAuto
import Derived.Deep.CutBlock
import Derived.Deep.RegionWith
namespace Go.Proofs.Ytmmikcpkaehooaa
open Go.RowKit
set_option linter.unusedVariables false
set_option linter.unusedSimpArgs false
/-- behind i writes -/
def wrS (f : Nat → Int) (i : Nat) : US := ⟨[], bl f i, [], false, 0, (match i with | 0 => none | _ + 1 => some (8, 0)), (match i with | 0 => 0 | _ + 1 => 1)⟩
theorem wrS_send (f : Nat → Int) (i : Nat) : sendT (f i) 0 (wrS f i) = wrS f (i + 1) := by
  cases i with
  | zero => rfl
  | succ i =>
    rw [send_more (by show 0 < (bl f (i + 1)).length; rw [bl_len]; omega)]
    unfold wrS
    rw [bl_succ f (i + 1)]
theorem wrS_a (f : Nat → Int) (i : Nat) : 0 ≤ (wrS f i).a ∧ (wrS f i).a ≤ 1000000 := by cases i <;> simp [wrS]
/-- of m bytes j are out -/
def orA (f : Nat → Int) (m j : Nat) : US := ⟨[], (bl f m).drop j, bl f j, false, 0, some (8 * ((j : Int) + 1), (j : Int)), (j : Int) + 1⟩
/-- all m bytes are out -/
def orZ (f : Nat → Int) (m : Nat) : US := ⟨[], [], bl f m, false, 0, none, (m : Int)⟩
theorem or_start (f : Nat → Int) (m : Nat) : (m = 0 ∧ wrS f m = orZ f m) ∨ (0 < m ∧ wrS f m = orA f m 0) := by
  cases m with
  | zero => exact .inl ⟨rfl, rfl⟩
  | succ m => exact .inr ⟨by omega, rfl⟩
/-- behind a Take -/
def miS (f : Nat → Int) (m j : Nat) : US := ⟨[], (bl f m).drop j, bl f j, false, 0, none, (j : Int) + 1⟩
theorem or_take (f : Nat → Int) (m j : Nat) : { orA f m j with q := none } = miS f m j := rfl
theorem or_q (f : Nat → Int) (m j now : Nat) (h : now = 8 * (j + 1)) : (orA f m j).q = some ((now : Int), (j : Int)) := by
  show some (8 * ((j : Int) + 1), (j : Int)) = _
  rw [show 8 * ((j : Int) + 1) = (now : Int) by omega]
theorem mi_last (f : Nat → Int) (m j : Nat) (h : j + 1 = m) : (miS f m j).goes = [f j] ∧ { miS f m j with goes := [], out := (miS f m j).out ++ [f j] } = orZ f m := by
  subst h
  refine ⟨?_, ?_⟩
  · show (bl f (j + 1)).drop j = _
    rw [bl_drop f j (j + 1) (by omega), bl_end]
  · show (⟨[], [], bl f j ++ [f j], false, 0, none, (j : Int) + 1⟩ : US) = ⟨[], [], bl f (j + 1), false, 0, none, ((j + 1 : Nat) : Int)⟩
    rw [bl_succ]
    rfl
theorem mi_more (f : Nat → Int) (m j now : Nat) (h : j + 1 < m) (hn : now = 8 * (j + 1)) : (miS f m j).goes = f j :: f (j + 1) :: (bl f m).drop (j + 2) ∧ { miS f m j with goes := f (j + 1) :: (bl f m).drop (j + 2), out := (miS f m j).out ++ [f j], q := some ((now : Int) + 8, (miS f m j).a), a := (miS f m j).a + 1 } = orA f m (j + 1) := by
  refine ⟨?_, ?_⟩
  · show (bl f m).drop j = _
    rw [bl_drop f j m (by omega), bl_drop f (j + 1) m h]
  · show (⟨[], f (j + 1) :: (bl f m).drop (j + 2), bl f j ++ [f j], false, 0, some ((now : Int) + 8, (j : Int) + 1), (j : Int) + 1 + 1⟩ : US) = ⟨[], (bl f m).drop (j + 1), bl f (j + 1), false, 0, some (8 * (((j + 1 : Nat) : Int) + 1), ((j + 1 : Nat) : Int)), ((j + 1 : Nat) : Int) + 1⟩
    rw [bl_drop f (j + 1) m h, bl_succ, show (now : Int) + 8 = 8 * (((j + 1 : Nat) : Int) + 1) by omega]
    rfl
/-- at time now all that was due ahead of it is out -/
def OrR (W0 w : World) (t g c1 c2 : Nat) (f : Nat → Int) (m now : Nat) : Prop :=
  (∃ (j : Nat) (v o : Value), j < m ∧ now ≤ 8 * (j + 1) ∧ One W0 w t g c1 c2 3 v o (orA f m j)) ∨ ∃ v o : Value, One W0 w t g c1 c2 3 v o (orZ f m)
theorem OrR.start {W0 w : World} {t g c1 c2 : Nat} {f : Nat → Int} {m : Nat} {v o : Value} (h : One W0 w t g c1 c2 3 v o (wrS f m)) : OrR W0 w t g c1 c2 f m 0 := by
  rcases or_start f m with ⟨_, e⟩ | ⟨h0, e⟩
  · rw [e] at h; exact .inr ⟨v, o, h⟩
  · rw [e] at h; exact .inl ⟨0, v, o, h0, by omega, h⟩
/-- behind i Types -/
def tyS (f h : Nat → Int) (m i : Nat) : US := ⟨bl h (min i 16), [], bl f m, decide (16 < i), 0, none, (m : Int)⟩
theorem tyS_type (f h : Nat → Int) (m i : Nat) : typeT (h i) (tyS f h m i) = tyS f h m (i + 1) := by
  unfold typeT
  by_cases hi : i < 16
  · rw [if_pos (by show (bl h (min i 16)).length < 16; rw [bl_len]; omega)]
    show (⟨bl h (min i 16) ++ [h i], [], bl f m, decide (16 < i), 0, none, (m : Int)⟩ : US) = ⟨bl h (min (i + 1) 16), [], bl f m, decide (16 < i + 1), 0, none, (m : Int)⟩
    rw [show min i 16 = i by omega, show min (i + 1) 16 = i + 1 by omega, bl_succ, decide_eq_false (show ¬ 16 < i by omega), decide_eq_false (show ¬ 16 < i + 1 by omega)]
  · rw [if_neg (by show ¬ (bl h (min i 16)).length < 16; rw [bl_len]; omega)]
    show (⟨bl h (min i 16), [], bl f m, true, 0, none, (m : Int)⟩ : US) = ⟨bl h (min (i + 1) 16), [], bl f m, decide (16 < i + 1), 0, none, (m : Int)⟩
    rw [show min i 16 = 16 by omega, show min (i + 1) 16 = 16 by omega, decide_eq_true (show 16 < i + 1 by omega)]
/-- i of K bytes are read -/
def rdS (f h : Nat → Int) (m K : Nat) (l : Bool) (i : Nat) : US := ⟨(bl h K).drop i, [], bl f m, l, 0, none, (m : Int)⟩

set_option maxHeartbeats 4000000 in
set_option maxRecDepth 100000 in
theorem order_walk (A A2 : Option Addr) (len cap len2 cap2 : Nat) (f h : Nat → Int) (w : World) (HF : Hid (ByIn w A len f)) (HH : Hid (ByIn w A2 len2 h)) (hl : len ≤ 9223372036854775807) (hl2 : len2 ≤ 9223372036854775807) (hc : len ≤ cap) :
    Calls Try.prog 3 #[.slice A len cap, .slice A2 len2 cap2] w (RetB (.bool true) w) := by
  go_enter Try.func3, Try.ntmps3
  go_wp2_with fail
  refine (wnew_any w).mono ?_
  rintro e w1 ⟨g, hg, rfl, hw, hb⟩
  go_wp2_with fail
  with_reducible refine (unew_any 3 hg hb hw).mono ?_
  rintro e w2 ⟨t, c1, c2, rfl, o2⟩
  clear hg hw hb
  go_upto_region 5 with fail
  go_cut [7] (fun s wc => ∃ m : Nat, m ≤ 16 ∧ m ≤ len ∧ s = .int .i64 m ∧ w2 = wc)
  case first =>
    by_cases h16 : len ≤ 16
    · go_wp2_with fail
      go_meet
      exact ⟨len, h16, Nat.le_refl _, rfl, rfl⟩
    · go_wp2_with fail
      go_meet
      exact ⟨16, Nat.le_refl _, by omega, rfl, rfl⟩
  case rest =>
    obtain ⟨m, h16, hml, rfl, rfl⟩ := hcut
    go_wp2_with fail
    go_loopw [8] (fun s wr => ∃ (i : Nat) (v o : Value), i ≤ m ∧ s = .int .i64 i ∧ One w wr t g c1 c2 3 v o (wrS f i)) (fun s _ => m - (intOf s).toNat)
    case atStart => exact ⟨0, _, _, by omega, rfl, o2⟩
    case round =>
      clear o2
      obtain ⟨i, v3, u3, hi, rfl, o3⟩ := hrel
      by_cases hlt : i < m
      · obtain ⟨b, o, rfl, hbl, hcl, z0, z1⟩ := HF.out i (by omega)
        have hcl' := (o3.bl.cell (p := ⟨b, o + i, none⟩) hbl).trans hcl
        have H1 := Lib.hid (wrS_send f i)
        have hg3 : (wrS f i).goes.length < 16 := by show (bl f i).length < 16; rw [bl_len]; omega
        have ha := wrS_a f i
        go_wp2_with fail
        with_reducible refine (write_to o3 (f i) 0 H1.out hg3 ha (by omega) (by omega) (by omega) (by omega) z0 z1).mono ?_
        rintro e w4 ⟨rfl, v4, u4, o4⟩
        clear o3
        go_wp2_with fail
        go_roundw
        case rel => exact ⟨i + 1, v4, u4, by omega, by go_num, o4⟩
        case measure => simp [intOf]; omega
      · obtain rfl : i = m := by omega
        have HR := OrR.start o3
        clear o3 hi hlt
        go_wp2_with fail
        go_loopw [9] (fun s wr => ∃ now : Nat, now ≤ 200 ∧ s = .int .i64 now ∧ OrR w wr t g c1 c2 f i now) (fun s _ => 200 - (intOf s).toNat)
        case atStart => exact ⟨0, by omega, rfl, HR⟩
        case round =>
          clear HR
          obtain ⟨now, hnow, rfl, HR⟩ := hrel
          by_cases hlt : now < 200
          · have hltI : (now : Int) < 200 := by omega
            rcases HR with ⟨j, v5, u5, hj, hnj, o5⟩ | ⟨v5, u5, o5⟩
            · by_cases hd : now = 8 * (j + 1)
              · have HQ := Lib.hid (or_q f i j now hd)
                have HT := Lib.hid (or_take f i j)
                have hr1 : (now : Int).tmod 8 = 0 := by rw [Int.tmod_eq_emod_of_nonneg (by omega)]; omega
                have hr2 : (now : Int) % 8 = 0 := by omega
                have hz : ((now : Int) == 0) = false := beq_false_of_ne (by omega)
                by_cases hjl : j + 1 = i
                · have HL := Lib.hid (mi_last f i j hjl)
                  have hout : (miS f i j).out.length ≤ 1000 := by show (bl f j).length ≤ 1000; rw [bl_len]; omega
                  clear hd hjl hnj hj hnow
                  go_wp2_with fail
                  with_reducible refine (take_yes o5 now HQ.out (Int.le_refl _) HT.out).mono ?_
                  rintro e w6 ⟨rfl, v6, u6, o6⟩
                  have o7 := o6.alloc (.cells #[.int .i64 now, .int .i64 3, .int .i64 j] 30)
                  clear o5 o6
                  go_wp2_with fail
                  with_reducible refine (last_to o7 (f j) now HL.out.1 HL.out.2 hout).mono ?_
                  rintro e w8 ⟨rfl, v8, u8, o8⟩
                  go_wp2_with fail
                  go_roundw
                  case rel => exact ⟨now + 1, by omega, by go_num, .inr ⟨v8, u8, o8⟩⟩
                  case measure => simp [intOf]; omega
                · have HL := Lib.hid (mi_more f i j now (by omega) hd)
                  have hout : (miS f i j).out.length ≤ 1000 := by show (bl f j).length ≤ 1000; rw [bl_len]; omega
                  have ha : 0 ≤ (miS f i j).a ∧ (miS f i j).a ≤ 1000000 := by show 0 ≤ (j : Int) + 1 ∧ (j : Int) + 1 ≤ 1000000; omega
                  have hnn : now + 1 ≤ 8 * (j + 1 + 1) := by omega
                  have hjj : j + 1 < i := by omega
                  clear hd hjl hnj hj hnow
                  go_wp2_with fail
                  with_reducible refine (take_yes o5 now HQ.out (Int.le_refl _) HT.out).mono ?_
                  rintro e w6 ⟨rfl, v6, u6, o6⟩
                  have o7 := o6.alloc (.cells #[.int .i64 now, .int .i64 3, .int .i64 j] 30)
                  clear o5 o6
                  go_wp2_with fail
                  with_reducible refine (more_to o7 (f j) (f (j + 1)) now HL.out.1 HL.out.2 hout ha (by omega) (by omega) (by omega) (by omega)).mono ?_
                  rintro e w8 ⟨rfl, v8, u8, o8⟩
                  go_wp2_with fail
                  go_roundw
                  case rel => exact ⟨now + 1, by omega, by go_num, .inl ⟨j + 1, v8, u8, hjj, hnn, o8⟩⟩
                  case measure => simp [intOf]; omega
              · have hno : ∀ x s, (orA f i j).q = some (x, s) → (now : Int) < x := by
                  intro x s e
                  have e : some (8 * ((j : Int) + 1), (j : Int)) = some (x, s) := e
                  cases e
                  omega
                have HN := Lib.hid hno
                clear hno
                go_wp2_with fail
                with_reducible refine (take_no o5 now HN.out).mono ?_
                rintro e w6 ⟨rfl, v6, u6, o6⟩
                have o7 := o6.alloc (.cells #[.int .i64 0, .int .i64 0, .int .i64 0] 30)
                clear o5 o6
                go_wp2_with fail
                go_roundw
                case rel => exact ⟨now + 1, by omega, by go_num, .inl ⟨j, v6, u6, hj, by omega, o7⟩⟩
                case measure => simp [intOf]; omega
            · have HN : Hid (∀ x s, (orZ f i).q = some (x, s) → (now : Int) < x) := Lib.hid (fun x s e => by cases e)
              go_wp2_with fail
              with_reducible refine (take_no o5 now HN.out).mono ?_
              rintro e w6 ⟨rfl, v6, u6, o6⟩
              have o7 := o6.alloc (.cells #[.int .i64 0, .int .i64 0, .int .i64 0] 30)
              clear o5 o6
              go_wp2_with fail
              go_roundw
              case rel => exact ⟨now + 1, by omega, by go_num, .inr ⟨v6, u6, o7⟩⟩
              case measure => simp [intOf]; omega
          · have hltI : ¬ (now : Int) < 200 := by omega
            rcases HR with ⟨j, v5, u5, hj, hnj, o5⟩ | ⟨v5, u5, o5⟩
            · omega
            · clear hlt hnow
              have hic : i ≤ cap := by omega
              have hicI : (i : Int) ≤ cap := by omega
              go_upto_region 19 with fail
              go_cut [75] (fun s wc => ∃ v o : Value, s = .bool false ∧ One w wc t g c1 c2 3 v o (orZ f i))
              case first =>
                have o5d : One w wr.drew t g c1 c2 3 v5 u5 (orZ f i) := o5.drewN 1
                have hout : (orZ f i).out.length ≤ 1000000 := by show (bl f i).length ≤ 1000000; rw [bl_len]; omega
                obtain ⟨st, HS⟩ : ∃ st, Hid (strL (bl f i) = st) := ⟨_, rfl⟩
                have x0 : (convert 22 9 (.slice A i cap)).run Try.prog wr.drew = .ok (.string st) wr.drew := by rw [← HS.out]; exact conv_in HF.out o5d.bl hml
                go_wp2_with fail
                go_region_with
                  (first
                    | (go_at_call 10; (with_reducible refine (out_any o5d hout).mono ?_); rintro e w6 ⟨u, rfl, hO, hb6⟩; have o6 := o5d.below hb6; have hcu : (convert 22 9 u).run Try.prog w6 = .ok (.string st) w6 := (by rw [← HS.out]; exact conv_own hO); have y0 : (convert 22 9 (.slice A i cap)).run Try.prog w6 = .ok (.string st) w6 := (by rw [← HS.out]; exact conv_in HF.out o6.bl hml)))
                all_goals
                  clear hcu y0 x0 hO hb6
                  go_wp2_with fail
                  go_meet
                  exact ⟨v5, u5, rfl, o6⟩
              case rest =>
                clear o5
                obtain ⟨v6, u6, rfl, o6⟩ := hcut
                go_upto_region 21 with fail
                go_cut [12] (fun s wz => ∃ k : Nat, k ≤ 30 ∧ k ≤ len2 ∧ s = .int .i64 k ∧ wc = wz)
                case first =>
                  by_cases h30 : len2 ≤ 30
                  · go_wp2_with fail
                    go_meet
                    exact ⟨len2, h30, Nat.le_refl _, rfl, rfl⟩
                  · go_wp2_with fail
                    go_meet
                    exact ⟨30, Nat.le_refl _, by omega, rfl, rfl⟩
                case rest =>
                  obtain ⟨k, h30, hkl, rfl, rfl⟩ := hcut
                  go_wp2_with fail
                  go_loopw [13] (fun s wr => ∃ (y : Nat) (v o : Value), y ≤ k ∧ s = .int .i64 y ∧ One w wr t g c1 c2 3 v o (tyS f h i y)) (fun s _ => k - (intOf s).toNat)
                  case atStart => exact ⟨0, _, _, by omega, rfl, o6⟩
                  case round =>
                    clear o6
                    obtain ⟨y, v7, u7, hy, rfl, o7⟩ := hrel
                    by_cases hlt : y < k
                    · obtain ⟨b, o, rfl, hbl, hcl, z0, z1⟩ := HH.out y (by omega)
                      have hcl' := (o7.bl.cell (p := ⟨b, o + y, none⟩) hbl).trans hcl
                      have H1 := Lib.hid (tyS_type f h i y)
                      go_wp2_with fail
                      with_reducible refine (type_to o7 (h y) H1.out).mono ?_
                      rintro e w8 ⟨rfl, v8, u8, o8⟩
                      clear o7
                      go_wp2_with fail
                      go_roundw
                      case rel => exact ⟨y + 1, v8, u8, by omega, by go_num, o8⟩
                      case measure => simp [intOf]; omega
                    · obtain rfl : y = k := by omega
                      clear hlt hy
                      go_wp2_with fail
                      with_reducible refine (read4_any o7).mono ?_
                      rintro e w8 ⟨rfl, rfl⟩
                      obtain ⟨x, HX⟩ : ∃ x, Hid (stW (tyS f h i y) = x) := ⟨_, rfl⟩
                      have HX2 : stB (decide (0 < (bl h (min y 16)).length)) (decide (0 = 16)) (decide (16 < y)) (decide (0 = 0)) = x := HX.out
                      rw [bl_len] at HX2
                      have a1 := st_1 (decide (0 < min y 16)) (decide (0 = 16)) (decide (16 < y)) (decide (0 = 0))
                      have a4 := st_4 (decide (0 < min y 16)) (decide (0 = 16)) (decide (16 < y)) (decide (0 = 0))
                      rw [HX2] at a1 a4
                      rw [HX.out]
                      clear HX HX2
                      rcases (show y = 0 ∨ (0 < y ∧ y ≤ 16) ∨ 16 < y by omega) with hy0 | ⟨hy0, hy1⟩ | hy1
                      · rw [decide_eq_false (show ¬ 0 < min y 16 by omega)] at a1
                        rw [decide_eq_false (show ¬ 16 < y by omega)] at a4
                        simp only [bi] at a1 a4
                        have hy1 : y ≤ 16 := by omega
                        have p0 : ¬ (0 : Int) < y := by omega
                        have p16 : ¬ (16 : Int) < y := by omega
                        have ple : (y : Int) ≤ 16 := by omega
                        have HR : Hid (tyS f h i y = rdS f h i y (decide (16 < y)) 0) := by show _ = _; unfold tyS rdS; rw [show min y 16 = y by omega]; rfl
                        have o9 : One w wr t g c1 c2 3 v7 u7 (rdS f h i y (decide (16 < y)) 0) := HR.out ▸ o7
                        clear o7
                        generalize decide (16 < y) = l at o9
                        go_wp2_with fail
                        go_loopw [16] (fun s wr => ∃ (z : Nat) (v o : Value), z ≤ y ∧ s = .int .i64 z ∧ One w wr t g c1 c2 3 v o (rdS f h i y l z)) (fun s _ => y - (intOf s).toNat)
                        case atStart => exact ⟨0, _, _, by omega, rfl, o9⟩
                        case round =>
                          clear o9
                          obtain ⟨z, v10, u10, hz, rfl, o10⟩ := hrel
                          by_cases hlt : z < y
                          · omega
                          · have hltI : ¬ (z : Int) < y := by omega
                            have HD : Hid ((rdS f h i y l z).came = []) := by
                              show (bl h y).drop z = []
                              rw [show z = y by omega]
                              exact bl_end h y
                            clear hlt hz
                            go_wp2_with fail
                            with_reducible refine (read0_none o10 HD.out).mono ?_
                            rintro e w11 ⟨rfl, rfl⟩
                            go_wp2_with fail
                            refine (known_any _).mono ?_
                            rintro e w12 ⟨rfl, hb12⟩
                            go_wp2
                            go_ret
                            exact ⟨rfl, (o10.below hb12).bl⟩
                      · rw [decide_eq_true (show 0 < min y 16 by omega)] at a1
                        rw [decide_eq_false (show ¬ 16 < y by omega)] at a4
                        simp only [bi] at a1 a4
                        have p0 : (0 : Int) < y := by omega
                        have p16 : ¬ (16 : Int) < y := by omega
                        have ple : (y : Int) ≤ 16 := by omega
                        have HR : Hid (tyS f h i y = rdS f h i y (decide (16 < y)) 0) := by show _ = _; unfold tyS rdS; rw [show min y 16 = y by omega]; rfl
                        have o9 : One w wr t g c1 c2 3 v7 u7 (rdS f h i y (decide (16 < y)) 0) := HR.out ▸ o7
                        clear o7
                        generalize decide (16 < y) = l at o9
                        go_wp2_with fail
                        go_loopw [16] (fun s wr => ∃ (z : Nat) (v o : Value), z ≤ y ∧ s = .int .i64 z ∧ One w wr t g c1 c2 3 v o (rdS f h i y l z)) (fun s _ => y - (intOf s).toNat)
                        case atStart => exact ⟨0, _, _, by omega, rfl, o9⟩
                        case round =>
                          clear o9
                          obtain ⟨z, v10, u10, hz, rfl, o10⟩ := hrel
                          by_cases hlt : z < y
                          · have hltI : (z : Int) < y := by omega
                            obtain ⟨b, o, rfl, hbl, hcl, z0, z1⟩ := HH.out z (by omega)
                            have HD : Hid ((rdS f h i y l z).came = h z :: (bl h y).drop (z + 1)) := Lib.hid (bl_drop h z y hlt)
                            have HS : Hid ({ rdS f h i y l z with came := (bl h y).drop (z + 1) } = rdS f h i y l (z + 1)) := Lib.hid rfl
                            go_wp2_with fail
                            with_reducible refine (read_to o10 (h z) HD.out HS.out z0 z1).mono ?_
                            rintro e w11 ⟨rfl, v11, u11, o11⟩
                            have hcl' := (o11.bl.cell (p := ⟨b, o + z, none⟩) hbl).trans hcl
                            clear o10 hcl
                            go_wp2_with fail
                            go_roundw
                            case rel => exact ⟨z + 1, v11, u11, by omega, by go_num, o11⟩
                            case measure => simp [intOf]; omega
                          · have hltI : ¬ (z : Int) < y := by omega
                            have HD : Hid ((rdS f h i y l z).came = []) := by
                              show (bl h y).drop z = []
                              rw [show z = y by omega]
                              exact bl_end h y
                            clear hlt hz
                            go_wp2_with fail
                            with_reducible refine (read0_none o10 HD.out).mono ?_
                            rintro e w11 ⟨rfl, rfl⟩
                            go_wp2_with fail
                            refine (known_any _).mono ?_
                            rintro e w12 ⟨rfl, hb12⟩
                            go_wp2
                            go_ret
                            exact ⟨rfl, (o10.below hb12).bl⟩
                      · rw [decide_eq_true (show 0 < min y 16 by omega)] at a1
                        rw [decide_eq_true (show 16 < y by omega)] at a4
                        simp only [bi] at a1 a4
                        have p0 : (0 : Int) < y := by omega
                        have p16 : (16 : Int) < y := by omega
                        have ple : ¬ (y : Int) ≤ 16 := by omega
                        have hy0 : 0 < y := by omega
                        have HR : Hid (tyS f h i y = rdS f h i 16 (decide (16 < y)) 0) := by show _ = _; unfold tyS rdS; rw [show min y 16 = 16 by omega]; rfl
                        have o9 : One w wr t g c1 c2 3 v7 u7 (rdS f h i 16 (decide (16 < y)) 0) := HR.out ▸ o7
                        clear o7
                        generalize decide (16 < y) = l at o9
                        go_wp2_with fail
                        go_loopw [16] (fun s wr => ∃ (z : Nat) (v o : Value), z ≤ 16 ∧ s = .int .i64 z ∧ One w wr t g c1 c2 3 v o (rdS f h i 16 l z)) (fun s _ => 16 - (intOf s).toNat)
                        case atStart => exact ⟨0, _, _, by omega, rfl, o9⟩
                        case round =>
                          clear o9
                          obtain ⟨z, v10, u10, hz, rfl, o10⟩ := hrel
                          by_cases hlt : z < 16
                          · have hltI : (z : Int) < 16 := by omega
                            obtain ⟨b, o, rfl, hbl, hcl, z0, z1⟩ := HH.out z (by omega)
                            have HD : Hid ((rdS f h i 16 l z).came = h z :: (bl h 16).drop (z + 1)) := Lib.hid (bl_drop h z 16 hlt)
                            have HS : Hid ({ rdS f h i 16 l z with came := (bl h 16).drop (z + 1) } = rdS f h i 16 l (z + 1)) := Lib.hid rfl
                            go_wp2_with fail
                            with_reducible refine (read_to o10 (h z) HD.out HS.out z0 z1).mono ?_
                            rintro e w11 ⟨rfl, v11, u11, o11⟩
                            have hcl' := (o11.bl.cell (p := ⟨b, o + z, none⟩) hbl).trans hcl
                            clear o10 hcl
                            go_wp2_with fail
                            go_roundw
                            case rel => exact ⟨z + 1, v11, u11, by omega, by go_num, o11⟩
                            case measure => simp [intOf]; omega
                          · have hltI : ¬ (z : Int) < 16 := by omega
                            have HD : Hid ((rdS f h i 16 l z).came = []) := by
                              show (bl h 16).drop z = []
                              rw [show z = 16 by omega]
                              exact bl_end h 16
                            clear hlt hz
                            go_wp2_with fail
                            with_reducible refine (read0_none o10 HD.out).mono ?_
                            rintro e w11 ⟨rfl, rfl⟩
                            go_wp2_with fail
                            refine (known_any _).mono ?_
                            rintro e w12 ⟨rfl, hb12⟩
                            go_wp2
                            go_ret
                            exact ⟨rfl, (o10.below hb12).bl⟩
end Go.Proofs.Ytmmikcpkaehooaa
