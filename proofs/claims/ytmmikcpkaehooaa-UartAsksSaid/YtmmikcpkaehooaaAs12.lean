/-
  Chapter 12: the walk of UartAsks.
-/
import Derived.Test.YtmmikcpkaehooaaBl12
import Derived.Deep.DeepCutAuto
import Derived.Deep.CutBlock
namespace Go.Proofs.Ytmmikcpkaehooaa
open Go.RowKit
set_option linter.unusedVariables false
set_option linter.unusedSimpArgs false
/-- it returns a number from lo to hi, and the world stands -/
def InP (lo hi : Int) (w : World) (e : Ending) (w' : World) : Prop := ∃ v : Int, lo ≤ v ∧ v ≤ hi ∧ e = .returned (.int .i64 v) ∧ w = w'
theorem tmod_pos (n K : Int) (hK : 0 < K) : -K < n.tmod K ∧ n.tmod K < K := by
  by_cases h : 0 ≤ n
  · rw [Int.tmod_eq_emod_of_nonneg h]
    have := Int.emod_nonneg n (show K ≠ 0 by omega)
    have := Int.emod_lt_of_pos n hK
    omega
  · have e : n.tmod K = -((-n) % K) := by rw [← Int.tmod_eq_emod_of_nonneg (by omega), Int.neg_tmod]; omega
    have := Int.emod_nonneg (-n) (show K ≠ 0 by omega)
    have := Int.emod_lt_of_pos (-n) hK
    omega
set_option maxHeartbeats 400000 in
theorem within_any (n lo hi : Int) (w : World) (h0 : -1000000000 ≤ lo) (h1 : lo ≤ hi) (h2 : hi ≤ 1000000000) (n0 : -9223372036854775808 ≤ n) (n1 : n ≤ 9223372036854775807) :
    Calls Try.prog 14 #[.int .i64 n, .int .i64 lo, .int .i64 hi] w (InP lo hi w) := by
  by_cases hin : lo ≤ n ∧ n ≤ hi
  · obtain ⟨i0, i1⟩ := hin
    go_enter Try.func14, Try.ntmps14
    go_wp2
    go_ret
    exact ⟨n, i0, i1, rfl, rfl⟩
  · obtain ⟨t0, t1⟩ := tmod_pos n (hi - lo + 1) (by omega)
    have hd : (decide (lo ≤ n) && decide (n ≤ hi)) = false := by simp; omega
    by_cases hlo : lo ≤ n
    · have hh : ¬ n ≤ hi := by omega
      by_cases hneg : n.tmod (hi - lo + 1) < 0
      all_goals
        go_enter Try.func14, Try.ntmps14
        go_wp2
        go_ret
        exact ⟨_, by omega, by omega, rfl, rfl⟩
    · by_cases hneg : n.tmod (hi - lo + 1) < 0
      all_goals
        go_enter Try.func14, Try.ntmps14
        go_wp2
        go_ret
        exact ⟨_, by omega, by omega, rfl, rfl⟩

/-! words' bits -/
theorem ct_and3 (v : Int) (h0 : 0 ≤ v) (h1 : v < 4294967296) : bits .and .u32 v 3 = cw (decide (v % 2 = 1)) (decide (v / 2 % 2 = 1)) := by
  have e : bits .and .u32 v 3 = v % 4 := by
    have := Go.u32_and_nat v.toNat 3 (by omega) (by omega)
    rw [show ((v.toNat : Nat) : Int) = v by omega] at this
    rw [show ((3 : Nat) : Int) = 3 from rfl] at this
    rw [this, show (3 : Nat) = 2 ^ 2 - 1 from rfl, Nat.and_two_pow_sub_one_eq_mod]
    omega
  rw [e]
  by_cases a1 : v % 2 = 1 <;> by_cases a2 : v / 2 % 2 = 1 <;> simp only [a1, a2, decide_true, decide_false, cw] <;> omega
theorem ct_and1 (v : Int) (h0 : 0 ≤ v) (h1 : v < 4294967296) : bits .and .u32 v 1 = bi (decide (v % 2 = 1)) 1 := by
  have e : bits .and .u32 v 1 = v % 2 := by
    have := Go.u32_and_nat v.toNat 1 (by omega) (by omega)
    rw [show ((v.toNat : Nat) : Int) = v by omega] at this
    rw [show ((1 : Nat) : Int) = 1 from rfl] at this
    rw [this, show (1 : Nat) = 2 ^ 1 - 1 from rfl, Nat.and_two_pow_sub_one_eq_mod]
    omega
  rw [e]
  by_cases a1 : v % 2 = 1 <;> simp only [a1, decide_true, decide_false, bi] <;> omega
theorem and_two (n : Nat) : n &&& 2 = n / 2 % 2 * 2 := by
  have h1 : n &&& 2 ≤ 2 := Nat.and_le_right
  have h2 : (n &&& 2) % 2 ^ 2 = n % 2 ^ 2 &&& 2 % 2 ^ 2 := Nat.and_mod_two_pow
  have h3 : n % 2 ^ 2 = 0 ∨ n % 2 ^ 2 = 1 ∨ n % 2 ^ 2 = 2 ∨ n % 2 ^ 2 = 3 := by omega
  rcases h3 with h | h | h | h <;> rw [h] at h2
  · have h2 : (n &&& 2) % 2 ^ 2 = 0 := h2
    omega
  · have h2 : (n &&& 2) % 2 ^ 2 = 0 := h2
    omega
  · have h2 : (n &&& 2) % 2 ^ 2 = 2 := h2
    omega
  · have h2 : (n &&& 2) % 2 ^ 2 = 2 := h2
    omega
theorem ct_and2 (v : Int) (h0 : 0 ≤ v) (h1 : v < 4294967296) : bits .and .u32 v 2 = bi (decide (v / 2 % 2 = 1)) 2 := by
  have e : bits .and .u32 v 2 = v / 2 % 2 * 2 := by
    have := Go.u32_and_nat v.toNat 2 (by omega) (by omega)
    rw [show ((v.toNat : Nat) : Int) = v by omega] at this
    rw [show ((2 : Nat) : Int) = 2 from rfl] at this
    rw [this, and_two]
    omega
  rw [e]
  by_cases a1 : v / 2 % 2 = 1 <;> simp only [a1, decide_true, decide_false, bi] <;> omega

def idn (k : Nat) : Int := (k : Int)
/-- behind i Types -/
def tyA (c : Int) (i : Nat) : US := ⟨bl idn i, [], [], false, c, none, 0⟩
theorem tyA_type (c : Int) (i : Nat) (h : i < 16) : typeT (i : Int) (tyA c i) = tyA c (i + 1) := by
  unfold typeT
  rw [if_pos (by show (bl idn i).length < 16; rw [bl_len]; exact h)]
  show (⟨bl idn i ++ [idn i], [], [], false, c, none, 0⟩ : US) = ⟨bl idn (i + 1), [], [], false, c, none, 0⟩
  rw [bl_succ]
/-- behind n Types and i Writes -/
def wrA (c : Int) (n i : Nat) : US := ⟨bl idn n, bl idn i, [], false, c, (match i with | 0 => none | _ + 1 => some (8, 0)), (match i with | 0 => 0 | _ + 1 => 1)⟩
theorem wrA_send (c : Int) (n i : Nat) : sendT (i : Int) 0 (wrA c n i) = wrA c n (i + 1) := by
  cases i with
  | zero => rfl
  | succ i =>
    rw [send_more (by show 0 < (bl idn (i + 1)).length; rw [bl_len]; omega)]
    unfold wrA
    rw [bl_succ idn (i + 1)]
    rfl
theorem wrA_a (c : Int) (n i : Nat) : 0 ≤ (wrA c n i).a ∧ (wrA c n i).a ≤ 1000000 := by cases i <;> simp [wrA]
/-- z of the n bytes are read -/
def rdA (c : Int) (n m z : Nat) : US := { wrA c n m with came := (bl idn n).drop z }
/-- all are read, z of the m bytes are out -/
def foA (c : Int) (m z : Nat) : US := ⟨[], (bl idn m).drop z, bl idn z, false, c, some (8 * ((z : Int) + 1), (z : Int)), (z : Int) + 1⟩
def fiA (c : Int) (m z : Nat) : US := ⟨[], (bl idn m).drop z, bl idn z, false, c, none, (z : Int) + 1⟩
def foZ (c : Int) (m : Nat) : US := ⟨[], [], bl idn m, false, c, none, (m : Int)⟩
def foS (c : Int) (m z : Nat) : US := if z < m then foA c m z else foZ c m
theorem foS_start (c : Int) (n m : Nat) : rdA c n m n = foS c m 0 := by
  unfold rdA
  rw [bl_end]
  cases m with
  | zero => rfl
  | succ m =>
    unfold foS
    rw [if_pos (by omega)]
    rfl
theorem foS_lt (c : Int) (m z : Nat) (h : z < m) : foS c m z = foA c m z := if_pos h
theorem foS_end (c : Int) (m z : Nat) (h : z = m) : foS c m z = foZ c m := if_neg (by omega)
theorem foA_take (c : Int) (m z : Nat) : { foA c m z with q := none } = fiA c m z := rfl
theorem fiA_last (c : Int) (m j : Nat) (h : j + 1 = m) : (fiA c m j).goes = [idn j] ∧ { fiA c m j with goes := [], out := (fiA c m j).out ++ [idn j] } = foS c m (j + 1) := by
  subst h
  refine ⟨?_, ?_⟩
  · show (bl idn (j + 1)).drop j = _
    rw [bl_drop idn j (j + 1) (by omega), bl_end]
  · rw [foS_end _ _ _ rfl]
    show (⟨[], [], bl idn j ++ [idn j], false, c, none, (j : Int) + 1⟩ : US) = ⟨[], [], bl idn (j + 1), false, c, none, ((j + 1 : Nat) : Int)⟩
    rw [bl_succ]
    rfl
theorem fiA_more (c : Int) (m j : Nat) (h : j + 1 < m) : (fiA c m j).goes = idn j :: idn (j + 1) :: (bl idn m).drop (j + 2) ∧ { fiA c m j with goes := idn (j + 1) :: (bl idn m).drop (j + 2), out := (fiA c m j).out ++ [idn j], q := some (8 * ((j : Int) + 1) + 8, (fiA c m j).a), a := (fiA c m j).a + 1 } = foS c m (j + 1) := by
  refine ⟨?_, ?_⟩
  · show (bl idn m).drop j = _
    rw [bl_drop idn j m (by omega), bl_drop idn (j + 1) m h]
  · rw [foS_lt _ _ _ h]
    show (⟨[], idn (j + 1) :: (bl idn m).drop (j + 2), bl idn j ++ [idn j], false, c, some (8 * ((j : Int) + 1) + 8, (j : Int) + 1), (j : Int) + 1 + 1⟩ : US) = ⟨[], (bl idn m).drop (j + 1), bl idn (j + 1), false, c, some (8 * (((j + 1 : Nat) : Int) + 1), ((j + 1 : Nat) : Int)), ((j + 1 : Nat) : Int) + 1⟩
    rw [bl_drop idn (j + 1) m h, bl_succ, show 8 * ((j : Int) + 1) + 8 = 8 * (((j + 1 : Nat) : Int) + 1) by omega]
    rfl

theorem line_to {W0 w : World} {t g c1 c2 : Nat} {d : Int} {v o : Value} {S : US} (i e : Bool) {r : Bool} (h : One W0 w t g c1 c2 d v o S) (hct : S.ct = cw i e) (hr : lnB i e (decide (0 < S.came.length)) (decide (S.goes.length = 0)) = r) :
    Calls Try.prog 15 #[.pointer (some ⟨t, 0, none⟩)] w fun x w' => x = .returned (.bool r) ∧ w = w' := hr ▸ line_any i e h hct
set_option maxHeartbeats 4000000 in
set_option maxRecDepth 100000 in
theorem asks_walk (a0 a1 a2 : Int) (w : World) (h0 : 0 ≤ a0) (h1 : a0 < 4294967296) (s0 : -9223372036854775808 ≤ a1) (s1 : a1 ≤ 9223372036854775807) (r0 : -9223372036854775808 ≤ a2) (r1 : a2 ≤ 9223372036854775807) :
    Calls Try.prog 4 #[.int .u32 a0, .int .i64 a1, .int .i64 a2] w (RetB (.bool true) w) := by
  have HC := Lib.hid (ct_and3 a0 h0 h1)
  have b1 := ct_and1 a0 h0 h1
  have b2 := ct_and2 a0 h0 h1
  generalize decide (a0 % 2 = 1) = i at HC b1
  generalize decide (a0 / 2 % 2 = 1) = e at HC b2
  obtain ⟨c, HCe⟩ : ∃ c, Hid (cw i e = c) := ⟨_, rfl⟩
  have HC2 : Hid (bits .and .u32 a0 3 = c) := by show _ = _; rw [← HCe.out]; exact HC.out
  have B1 := Lib.hid b1
  have B2 := Lib.hid b2
  clear b1 b2 HC h0 h1
  go_enter Try.func4, Try.ntmps4
  go_wp2_with fail
  refine (wnew_any w).mono ?_
  rintro r w1 ⟨g, hg, rfl, hw, hb⟩
  go_wp2_with fail
  with_reducible refine (unew_any 3 hg hb hw).mono ?_
  rintro r w2 ⟨t, c1, c2, rfl, o2⟩
  clear hg hw hb
  go_wp2_with fail
  with_reducible refine (write8_any a0 0 c o2 HC2.out).mono ?_
  rintro r w3 ⟨rfl, v3, u3, o3⟩
  clear o2
  go_wp2_with fail
  with_reducible refine (within_any a1 0 16 w3 (by omega) (by omega) (by omega) s0 s1).mono ?_
  rintro r w4 ⟨z, z0, z1, rfl, rfl⟩
  obtain ⟨n, hn, rfl⟩ : ∃ n : Nat, n ≤ 16 ∧ z = (n : Int) := ⟨z.toNat, by omega, by omega⟩
  go_wp2_with fail
  with_reducible refine (within_any a2 0 16 w3 (by omega) (by omega) (by omega) r0 r1).mono ?_
  rintro r w4 ⟨z, x0, x1, rfl, rfl⟩
  obtain ⟨m, hm, rfl⟩ : ∃ m : Nat, m ≤ 16 ∧ z = (m : Int) := ⟨z.toNat, by omega, by omega⟩
  clear z0 z1 x0 x1 s0 s1 r0 r1
  go_wp2_with fail
  go_loopw [11] (fun s wr => ∃ (y : Nat) (v o : Value), y ≤ n ∧ s = .int .i64 y ∧ One w wr t g c1 c2 3 v o (tyA c y)) (fun s _ => n - (intOf s).toNat)
  case atStart => exact ⟨0, _, _, by omega, rfl, o3⟩
  case round =>
    clear o3
    obtain ⟨y, v5, u5, hy, rfl, o5⟩ := hrel
    by_cases hlt : y < n
    · have H1 := Lib.hid (tyA_type c y (by omega))
      go_wp2_with fail
      with_reducible refine (type_to o5 (y : Int) H1.out).mono ?_
      rintro r w6 ⟨rfl, v6, u6, o6⟩
      clear o5
      go_wp2_with fail
      go_roundw
      case rel => exact ⟨y + 1, v6, u6, by omega, by go_num, o6⟩
      case measure => simp [intOf]; omega
    · obtain rfl : y = n := by omega
      clear hlt hy
      go_wp2_with fail
      go_loopw [12] (fun s wr => ∃ (x : Nat) (v o : Value), x ≤ m ∧ s = .int .i64 x ∧ One w wr t g c1 c2 3 v o (wrA c y x)) (fun s _ => m - (intOf s).toNat)
      case atStart => exact ⟨0, _, _, by omega, rfl, o5⟩
      case round =>
        clear o5
        obtain ⟨x, v7, u7, hx, rfl, o7⟩ := hrel
        by_cases hlt : x < m
        · have H1 := Lib.hid (wrA_send c y x)
          have hg3 : (wrA c y x).goes.length < 16 := by show (bl idn x).length < 16; rw [bl_len]; omega
          have ha := wrA_a c y x
          go_wp2_with fail
          with_reducible refine (write_to o7 (x : Int) 0 H1.out hg3 ha (by omega) (by omega) (by omega) (by omega) (by omega) (by omega)).mono ?_
          rintro r w8 ⟨rfl, v8, u8, o8⟩
          clear o7
          go_wp2_with fail
          go_roundw
          case rel => exact ⟨x + 1, v8, u8, by omega, by go_num, o8⟩
          case measure => simp [intOf]; omega
        · obtain rfl : x = m := by omega
          clear hlt hx
          go_upto_region 14 with fail
          go_cut [72] (fun s wc => s = .bool false ∧ wr = wc)
          case first =>
            have b1 := B1.out
            have b2 := B2.out
            cases i <;> cases e <;> simp only [bi] at b1 b2 <;> by_cases hyp : 0 < y <;> by_cases hxp : x = 0
            · have hb : lnB false false (decide (0 < (wrA c y x).came.length)) (decide ((wrA c y x).goes.length = 0)) = false := by
                show lnB _ _ (decide (0 < (bl idn y).length)) (decide ((bl idn x).length = 0)) = _
                rw [bl_len, bl_len, decide_eq_true hyp, decide_eq_true hxp]; rfl
              have HB := Lib.hid hb
              have HT : Hid ((wrA c y x).ct = cw false false) := HCe.out.symm
              have hyI : (0 : Int) < y := by omega
              clear hb
              subst hxp
              go_wp2_with fail
              with_reducible refine (line_to false false o7 HT.out HB.out).mono ?_
              rintro r w8 ⟨rfl, rfl⟩
              go_wp2_with fail
              go_meet
              first
                | exact ⟨rfl, rfl⟩
                | ((repeat apply Exists.intro); exact ⟨⟨rfl, rfl⟩, rfl⟩)
            · have hb : lnB false false (decide (0 < (wrA c y x).came.length)) (decide ((wrA c y x).goes.length = 0)) = false := by
                show lnB _ _ (decide (0 < (bl idn y).length)) (decide ((bl idn x).length = 0)) = _
                rw [bl_len, bl_len, decide_eq_true hyp, decide_eq_false hxp]; rfl
              have HB := Lib.hid hb
              have HT : Hid ((wrA c y x).ct = cw false false) := HCe.out.symm
              have hyI : (0 : Int) < y := by omega
              have hxI : ((x : Int) == 0) = false := beq_false_of_ne (by omega)
              clear hb hxp
              go_wp2_with fail
              with_reducible refine (line_to false false o7 HT.out HB.out).mono ?_
              rintro r w8 ⟨rfl, rfl⟩
              go_wp2_with fail
              go_meet
              first
                | exact ⟨rfl, rfl⟩
                | ((repeat apply Exists.intro); exact ⟨⟨rfl, rfl⟩, rfl⟩)
            · have hb : lnB false false (decide (0 < (wrA c y x).came.length)) (decide ((wrA c y x).goes.length = 0)) = false := by
                show lnB _ _ (decide (0 < (bl idn y).length)) (decide ((bl idn x).length = 0)) = _
                rw [bl_len, bl_len, decide_eq_false hyp, decide_eq_true hxp]; rfl
              have HB := Lib.hid hb
              have HT : Hid ((wrA c y x).ct = cw false false) := HCe.out.symm
              have hyI : ¬ (0 : Int) < y := by omega
              clear hb
              subst hxp
              go_wp2_with fail
              with_reducible refine (line_to false false o7 HT.out HB.out).mono ?_
              rintro r w8 ⟨rfl, rfl⟩
              go_wp2_with fail
              go_meet
              first
                | exact ⟨rfl, rfl⟩
                | ((repeat apply Exists.intro); exact ⟨⟨rfl, rfl⟩, rfl⟩)
            · have hb : lnB false false (decide (0 < (wrA c y x).came.length)) (decide ((wrA c y x).goes.length = 0)) = false := by
                show lnB _ _ (decide (0 < (bl idn y).length)) (decide ((bl idn x).length = 0)) = _
                rw [bl_len, bl_len, decide_eq_false hyp, decide_eq_false hxp]; rfl
              have HB := Lib.hid hb
              have HT : Hid ((wrA c y x).ct = cw false false) := HCe.out.symm
              have hyI : ¬ (0 : Int) < y := by omega
              have hxI : ((x : Int) == 0) = false := beq_false_of_ne (by omega)
              clear hb hxp
              go_wp2_with fail
              with_reducible refine (line_to false false o7 HT.out HB.out).mono ?_
              rintro r w8 ⟨rfl, rfl⟩
              go_wp2_with fail
              go_meet
              first
                | exact ⟨rfl, rfl⟩
                | ((repeat apply Exists.intro); exact ⟨⟨rfl, rfl⟩, rfl⟩)
            · have hb : lnB false true (decide (0 < (wrA c y x).came.length)) (decide ((wrA c y x).goes.length = 0)) = true := by
                show lnB _ _ (decide (0 < (bl idn y).length)) (decide ((bl idn x).length = 0)) = _
                rw [bl_len, bl_len, decide_eq_true hyp, decide_eq_true hxp]; rfl
              have HB := Lib.hid hb
              have HT : Hid ((wrA c y x).ct = cw false true) := HCe.out.symm
              have hyI : (0 : Int) < y := by omega
              clear hb
              subst hxp
              go_wp2_with fail
              with_reducible refine (line_to false true o7 HT.out HB.out).mono ?_
              rintro r w8 ⟨rfl, rfl⟩
              go_wp2_with fail
              go_meet
              first
                | exact ⟨rfl, rfl⟩
                | ((repeat apply Exists.intro); exact ⟨⟨rfl, rfl⟩, rfl⟩)
            · have hb : lnB false true (decide (0 < (wrA c y x).came.length)) (decide ((wrA c y x).goes.length = 0)) = false := by
                show lnB _ _ (decide (0 < (bl idn y).length)) (decide ((bl idn x).length = 0)) = _
                rw [bl_len, bl_len, decide_eq_true hyp, decide_eq_false hxp]; rfl
              have HB := Lib.hid hb
              have HT : Hid ((wrA c y x).ct = cw false true) := HCe.out.symm
              have hyI : (0 : Int) < y := by omega
              have hxI : ((x : Int) == 0) = false := beq_false_of_ne (by omega)
              clear hb hxp
              go_wp2_with fail
              with_reducible refine (line_to false true o7 HT.out HB.out).mono ?_
              rintro r w8 ⟨rfl, rfl⟩
              go_wp2_with fail
              go_meet
              first
                | exact ⟨rfl, rfl⟩
                | ((repeat apply Exists.intro); exact ⟨⟨rfl, rfl⟩, rfl⟩)
            · have hb : lnB false true (decide (0 < (wrA c y x).came.length)) (decide ((wrA c y x).goes.length = 0)) = true := by
                show lnB _ _ (decide (0 < (bl idn y).length)) (decide ((bl idn x).length = 0)) = _
                rw [bl_len, bl_len, decide_eq_false hyp, decide_eq_true hxp]; rfl
              have HB := Lib.hid hb
              have HT : Hid ((wrA c y x).ct = cw false true) := HCe.out.symm
              have hyI : ¬ (0 : Int) < y := by omega
              clear hb
              subst hxp
              go_wp2_with fail
              with_reducible refine (line_to false true o7 HT.out HB.out).mono ?_
              rintro r w8 ⟨rfl, rfl⟩
              go_wp2_with fail
              go_meet
              first
                | exact ⟨rfl, rfl⟩
                | ((repeat apply Exists.intro); exact ⟨⟨rfl, rfl⟩, rfl⟩)
            · have hb : lnB false true (decide (0 < (wrA c y x).came.length)) (decide ((wrA c y x).goes.length = 0)) = false := by
                show lnB _ _ (decide (0 < (bl idn y).length)) (decide ((bl idn x).length = 0)) = _
                rw [bl_len, bl_len, decide_eq_false hyp, decide_eq_false hxp]; rfl
              have HB := Lib.hid hb
              have HT : Hid ((wrA c y x).ct = cw false true) := HCe.out.symm
              have hyI : ¬ (0 : Int) < y := by omega
              have hxI : ((x : Int) == 0) = false := beq_false_of_ne (by omega)
              clear hb hxp
              go_wp2_with fail
              with_reducible refine (line_to false true o7 HT.out HB.out).mono ?_
              rintro r w8 ⟨rfl, rfl⟩
              go_wp2_with fail
              go_meet
              first
                | exact ⟨rfl, rfl⟩
                | ((repeat apply Exists.intro); exact ⟨⟨rfl, rfl⟩, rfl⟩)
            · have hb : lnB true false (decide (0 < (wrA c y x).came.length)) (decide ((wrA c y x).goes.length = 0)) = true := by
                show lnB _ _ (decide (0 < (bl idn y).length)) (decide ((bl idn x).length = 0)) = _
                rw [bl_len, bl_len, decide_eq_true hyp, decide_eq_true hxp]; rfl
              have HB := Lib.hid hb
              have HT : Hid ((wrA c y x).ct = cw true false) := HCe.out.symm
              have hyI : (0 : Int) < y := by omega
              clear hb
              subst hxp
              go_wp2_with fail
              with_reducible refine (line_to true false o7 HT.out HB.out).mono ?_
              rintro r w8 ⟨rfl, rfl⟩
              go_wp2_with fail
              go_meet
              first
                | exact ⟨rfl, rfl⟩
                | ((repeat apply Exists.intro); exact ⟨⟨rfl, rfl⟩, rfl⟩)
            · have hb : lnB true false (decide (0 < (wrA c y x).came.length)) (decide ((wrA c y x).goes.length = 0)) = true := by
                show lnB _ _ (decide (0 < (bl idn y).length)) (decide ((bl idn x).length = 0)) = _
                rw [bl_len, bl_len, decide_eq_true hyp, decide_eq_false hxp]; rfl
              have HB := Lib.hid hb
              have HT : Hid ((wrA c y x).ct = cw true false) := HCe.out.symm
              have hyI : (0 : Int) < y := by omega
              have hxI : ((x : Int) == 0) = false := beq_false_of_ne (by omega)
              clear hb hxp
              go_wp2_with fail
              with_reducible refine (line_to true false o7 HT.out HB.out).mono ?_
              rintro r w8 ⟨rfl, rfl⟩
              go_wp2_with fail
              go_meet
              first
                | exact ⟨rfl, rfl⟩
                | ((repeat apply Exists.intro); exact ⟨⟨rfl, rfl⟩, rfl⟩)
            · have hb : lnB true false (decide (0 < (wrA c y x).came.length)) (decide ((wrA c y x).goes.length = 0)) = false := by
                show lnB _ _ (decide (0 < (bl idn y).length)) (decide ((bl idn x).length = 0)) = _
                rw [bl_len, bl_len, decide_eq_false hyp, decide_eq_true hxp]; rfl
              have HB := Lib.hid hb
              have HT : Hid ((wrA c y x).ct = cw true false) := HCe.out.symm
              have hyI : ¬ (0 : Int) < y := by omega
              clear hb
              subst hxp
              go_wp2_with fail
              with_reducible refine (line_to true false o7 HT.out HB.out).mono ?_
              rintro r w8 ⟨rfl, rfl⟩
              go_wp2_with fail
              go_meet
              first
                | exact ⟨rfl, rfl⟩
                | ((repeat apply Exists.intro); exact ⟨⟨rfl, rfl⟩, rfl⟩)
            · have hb : lnB true false (decide (0 < (wrA c y x).came.length)) (decide ((wrA c y x).goes.length = 0)) = false := by
                show lnB _ _ (decide (0 < (bl idn y).length)) (decide ((bl idn x).length = 0)) = _
                rw [bl_len, bl_len, decide_eq_false hyp, decide_eq_false hxp]; rfl
              have HB := Lib.hid hb
              have HT : Hid ((wrA c y x).ct = cw true false) := HCe.out.symm
              have hyI : ¬ (0 : Int) < y := by omega
              have hxI : ((x : Int) == 0) = false := beq_false_of_ne (by omega)
              clear hb hxp
              go_wp2_with fail
              with_reducible refine (line_to true false o7 HT.out HB.out).mono ?_
              rintro r w8 ⟨rfl, rfl⟩
              go_wp2_with fail
              go_meet
              first
                | exact ⟨rfl, rfl⟩
                | ((repeat apply Exists.intro); exact ⟨⟨rfl, rfl⟩, rfl⟩)
            · have hb : lnB true true (decide (0 < (wrA c y x).came.length)) (decide ((wrA c y x).goes.length = 0)) = true := by
                show lnB _ _ (decide (0 < (bl idn y).length)) (decide ((bl idn x).length = 0)) = _
                rw [bl_len, bl_len, decide_eq_true hyp, decide_eq_true hxp]; rfl
              have HB := Lib.hid hb
              have HT : Hid ((wrA c y x).ct = cw true true) := HCe.out.symm
              have hyI : (0 : Int) < y := by omega
              clear hb
              subst hxp
              go_wp2_with fail
              with_reducible refine (line_to true true o7 HT.out HB.out).mono ?_
              rintro r w8 ⟨rfl, rfl⟩
              go_wp2_with fail
              go_meet
              first
                | exact ⟨rfl, rfl⟩
                | ((repeat apply Exists.intro); exact ⟨⟨rfl, rfl⟩, rfl⟩)
            · have hb : lnB true true (decide (0 < (wrA c y x).came.length)) (decide ((wrA c y x).goes.length = 0)) = true := by
                show lnB _ _ (decide (0 < (bl idn y).length)) (decide ((bl idn x).length = 0)) = _
                rw [bl_len, bl_len, decide_eq_true hyp, decide_eq_false hxp]; rfl
              have HB := Lib.hid hb
              have HT : Hid ((wrA c y x).ct = cw true true) := HCe.out.symm
              have hyI : (0 : Int) < y := by omega
              have hxI : ((x : Int) == 0) = false := beq_false_of_ne (by omega)
              clear hb hxp
              go_wp2_with fail
              with_reducible refine (line_to true true o7 HT.out HB.out).mono ?_
              rintro r w8 ⟨rfl, rfl⟩
              go_wp2_with fail
              go_meet
              first
                | exact ⟨rfl, rfl⟩
                | ((repeat apply Exists.intro); exact ⟨⟨rfl, rfl⟩, rfl⟩)
            · have hb : lnB true true (decide (0 < (wrA c y x).came.length)) (decide ((wrA c y x).goes.length = 0)) = true := by
                show lnB _ _ (decide (0 < (bl idn y).length)) (decide ((bl idn x).length = 0)) = _
                rw [bl_len, bl_len, decide_eq_false hyp, decide_eq_true hxp]; rfl
              have HB := Lib.hid hb
              have HT : Hid ((wrA c y x).ct = cw true true) := HCe.out.symm
              have hyI : ¬ (0 : Int) < y := by omega
              clear hb
              subst hxp
              go_wp2_with fail
              with_reducible refine (line_to true true o7 HT.out HB.out).mono ?_
              rintro r w8 ⟨rfl, rfl⟩
              go_wp2_with fail
              go_meet
              first
                | exact ⟨rfl, rfl⟩
                | ((repeat apply Exists.intro); exact ⟨⟨rfl, rfl⟩, rfl⟩)
            · have hb : lnB true true (decide (0 < (wrA c y x).came.length)) (decide ((wrA c y x).goes.length = 0)) = false := by
                show lnB _ _ (decide (0 < (bl idn y).length)) (decide ((bl idn x).length = 0)) = _
                rw [bl_len, bl_len, decide_eq_false hyp, decide_eq_false hxp]; rfl
              have HB := Lib.hid hb
              have HT : Hid ((wrA c y x).ct = cw true true) := HCe.out.symm
              have hyI : ¬ (0 : Int) < y := by omega
              have hxI : ((x : Int) == 0) = false := beq_false_of_ne (by omega)
              clear hb hxp
              go_wp2_with fail
              with_reducible refine (line_to true true o7 HT.out HB.out).mono ?_
              rintro r w8 ⟨rfl, rfl⟩
              go_wp2_with fail
              go_meet
              first
                | exact ⟨rfl, rfl⟩
                | ((repeat apply Exists.intro); exact ⟨⟨rfl, rfl⟩, rfl⟩)
          case rest =>
            obtain ⟨rfl, rfl⟩ := hcut
            go_wp2_with fail
            go_loopw [13] (fun s wr => ∃ (z : Nat) (v o : Value), z ≤ y ∧ s = .int .i64 z ∧ One w wr t g c1 c2 3 v o (rdA c y x z)) (fun s _ => y - (intOf s).toNat)
            case atStart => exact ⟨0, _, _, by omega, rfl, o7⟩
            case round =>
              clear o7
              obtain ⟨z, v9, u9, hz, rfl, o9⟩ := hrel
              by_cases hlt : z < y
              · have HD : Hid ((rdA c y x z).came = idn z :: (bl idn y).drop (z + 1)) := Lib.hid (bl_drop idn z y hlt)
                have HS : Hid ({ rdA c y x z with came := (bl idn y).drop (z + 1) } = rdA c y x (z + 1)) := Lib.hid rfl
                have z0 : 0 ≤ idn z := by show (0 : Int) ≤ (z : Int); omega
                have z1 : idn z < 256 := by show (z : Int) < 256; omega
                go_wp2_with fail
                with_reducible refine (read_to o9 (idn z) HD.out HS.out z0 z1).mono ?_
                rintro r w10 ⟨rfl, v10, u10, o10⟩
                clear o9
                go_wp2_with fail
                go_roundw
                case rel => exact ⟨z + 1, v10, u10, by omega, by go_num, o10⟩
                case measure => simp [intOf]; omega
              · obtain rfl : z = y := by omega
                have o11 : One w wr t g c1 c2 3 v9 u9 (foS c x 0) := by rw [← foS_start c z x]; exact o9
                clear hlt hz o9
                go_wp2_with fail
                go_loopw [14] (fun s wr => ∃ (u : Nat) (v o : Value), u ≤ x ∧ s = .int .i64 u ∧ One w wr t g c1 c2 3 v o (foS c x u)) (fun s _ => x - (intOf s).toNat)
                case atStart => exact ⟨0, _, _, by omega, rfl, o11⟩
                case round =>
                  clear o11
                  obtain ⟨u, v12, u12, hu, rfl, o12⟩ := hrel
                  by_cases hlt : u < x
                  · rw [foS_lt c x u hlt] at o12
                    obtain ⟨T, HT, T0, T1⟩ : ∃ T : Int, Hid (T = 8 * ((u : Int) + 1)) ∧ 0 ≤ T ∧ T ≤ 1000 := ⟨_, Lib.hid rfl, by omega, by omega⟩
                    have HQ : Hid ((foA c x u).q = some (T, (u : Int))) := by show some (8 * ((u : Int) + 1), (u : Int)) = _; rw [HT.out]
                    have HK := Lib.hid (foA_take c x u)
                    have hout : (fiA c x u).out.length ≤ 1000 := by show (bl idn u).length ≤ 1000; rw [bl_len]; omega
                    by_cases hjl : u + 1 = x
                    · have HL := Lib.hid (fiA_last c x u hjl)
                      clear hjl
                      go_wp2_with fail
                      with_reducible refine (take_yes o12 1000 HQ.out T1 HK.out).mono ?_
                      rintro r w13 ⟨rfl, v13, u13, o13⟩
                      have o14 := o13.alloc (.cells #[.int .i64 T, .int .i64 3, .int .i64 u] 30)
                      clear o12 o13
                      go_wp2_with fail
                      with_reducible refine (last_to o14 (idn u) T HL.out.1 HL.out.2 hout).mono ?_
                      rintro r w15 ⟨rfl, v15, u15, o15⟩
                      go_wp2_with fail
                      go_roundw
                      case rel => exact ⟨u + 1, v15, u15, by omega, by go_num, o15⟩
                      case measure => simp [intOf]; omega
                    · have hm1 := fiA_more c x u (by omega)
                      rw [← HT.out] at hm1
                      have HL := Lib.hid hm1
                      have ha : 0 ≤ (fiA c x u).a ∧ (fiA c x u).a ≤ 1000000 := by show 0 ≤ (u : Int) + 1 ∧ (u : Int) + 1 ≤ 1000000; omega
                      clear hjl hm1
                      go_wp2_with fail
                      with_reducible refine (take_yes o12 1000 HQ.out T1 HK.out).mono ?_
                      rintro r w13 ⟨rfl, v13, u13, o13⟩
                      have o14 := o13.alloc (.cells #[.int .i64 T, .int .i64 3, .int .i64 u] 30)
                      clear o12 o13
                      go_wp2_with fail
                      with_reducible refine (more_to o14 (idn u) (idn (u + 1)) T HL.out.1 HL.out.2 hout ha (by omega) (by omega) T0 (by omega)).mono ?_
                      rintro r w15 ⟨rfl, v15, u15, o15⟩
                      go_wp2_with fail
                      go_roundw
                      case rel => exact ⟨u + 1, v15, u15, by omega, by go_num, o15⟩
                      case measure => simp [intOf]; omega
                  · obtain rfl : u = x := by omega
                    rw [foS_end c u u rfl] at o12
                    have hb : lnB i e (decide (0 < (foZ c u).came.length)) (decide ((foZ c u).goes.length = 0)) = e := by cases i <;> cases e <;> rfl
                    have HB := Lib.hid hb
                    have hout : (foZ c u).out.length ≤ 1000000 := by show (bl idn u).length ≤ 1000000; rw [bl_len]; omega
                    have hlen : (foZ c u).out.length = u := bl_len idn u
                    have HN := Lib.hid hlen
                    have b2 := B2.out
                    have HT : Hid ((foZ c u).ct = cw i e) := HCe.out.symm
                    clear hlt hu hb hlen
                    cases e
                    all_goals
                      simp only [bi] at b2
                      go_wp2_with fail
                      with_reducible refine (line_to i _ o12 HT.out HB.out).mono ?_
                      rintro r w13 ⟨rfl, rfl⟩
                      go_wp2_with fail
                      with_reducible refine (out_any o12 hout).mono ?_
                      rintro r w14 ⟨q, rfl, hO, hb14⟩
                      have o14 := o12.below hb14
                      rw [HN.out] at hO
                      obtain ⟨A, k, rfl, _, _⟩ := own_form hO
                      clear hO o12
                      go_wp2_with fail
                      refine (known_any _).mono ?_
                      rintro r w15 ⟨rfl, hb15⟩
                      go_wp2
                      go_ret
                      exact ⟨rfl, (o14.below hb15).bl⟩
end Go.Proofs.Ytmmikcpkaehooaa
