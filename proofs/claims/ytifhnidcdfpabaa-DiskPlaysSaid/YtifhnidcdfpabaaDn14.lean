/-
  Chapter 14: New, Sectors, Line, Read, start, Write of package disk.
-/
import Derived.Test.YtifhnidcdfpabaaDk14
import Derived.Deep.RegionHeld3
namespace Go.Proofs.Ytifhnidcdfpabaa
open Go.RowKit
set_option linter.unusedVariables false
set_option linter.unusedSimpArgs false
theorem wrap_small {k : Int} (h0 : 0 ≤ k) (h1 : k ≤ 4611686018427387904) : IntKind.i64.wrap k = k := by rw [IntKind.wrap_i64]; omega
section
variable {w : World} {x g r y : Nat} {O : Nat → Prop} {p n : Nat} {d : Int} {v : Value} {S : DS}
set_option maxRecDepth 100000 in
set_option maxHeartbeats 1000000 in
theorem dsect_any (h : Dk w x g r y O p n d v S) (hn : n ≤ 64) :
    Calls Try.prog 11 #[.pointer (some ⟨x, 0, none⟩)] w fun e w' => e = .returned (.int .i64 n) ∧ w = w' := by
  have k3 := h.k3
  go_enter Try.func11, Try.ntmps11
  go_wp2
  go_ret
  exact ⟨ret_int (by omega), rfl⟩
set_option maxRecDepth 100000 in
set_option maxHeartbeats 1000000 in
theorem dline_any (h : Dk w x g r y O p n d v S) :
    Calls Try.prog 21 #[.pointer (some ⟨x, 0, none⟩)] w fun e w' => e = .returned (.bool (S.dn || S.er)) ∧ w = w' := by
  have k7 := h.k7
  have e6 := sw_is6 S.bz S.dn S.er
  have HE := Lib.hid e6
  clear e6
  go_enter Try.func21, Try.ntmps21
  go_wp2
  go_ret
  exact ⟨ret_bool HE.out, rfl⟩
set_option maxRecDepth 100000 in
set_option maxHeartbeats 1000000 in
theorem dread_any (k : Nat) (z : Int) (h : Dk w x g r y O p n d v S) (hk : k ≤ 6) (hz : z = (k : Int) * 4) :
    Calls Try.prog 20 #[.pointer (some ⟨x, 0, none⟩), .int .u32 z] w fun e w' => e = .returned (.tuple #[.int .u32 (wordD k S), .bool (decide (k < 4))]) ∧ w = w' := by
  have k4 := h.k4
  have k5 := h.k5
  have k6 := h.k6
  have k7 := h.k7
  have hz2 : k = 0 ∧ z = 0 ∨ k = 1 ∧ z = 4 ∨ k = 2 ∧ z = 8 ∨ k = 3 ∧ z = 12 ∨ k = 4 ∧ z = 16 ∨ k = 5 ∧ z = 20 ∨ k = 6 ∧ z = 24 := by omega
  clear hz hk
  rcases hz2 with ⟨rfl, rfl⟩ | ⟨rfl, rfl⟩ | ⟨rfl, rfl⟩ | ⟨rfl, rfl⟩ | ⟨rfl, rfl⟩ | ⟨rfl, rfl⟩ | ⟨rfl, rfl⟩
  all_goals
    go_enter Try.func20, Try.ntmps20
    go_wp2
    go_ret2
    exact ⟨rfl, rfl⟩
theorem arm_T {W : World} {a : Int} {q : Option (Int × Int)} (T : Int) (hw : Wh 83 W g v (qL d q) a) (hok : okB d T = true) (ha : 0 ≤ a ∧ a ≤ 1000000) :
    Calls Try.prog 50 #[.pointer (some ⟨g, 0, none⟩), .int .i64 d, .int .i64 T] W (RetW 83 (.bool true) W g v (qL d (some (T, a))) (a + 1)) := by
  have hl := qL_len d q
  have := arm_any d T hw (by omega) ha
  unfold armL armA at this
  rw [hok, if_pos rfl, if_pos rfl, arm_q] at this
  exact this
set_option maxRecDepth 100000 in
set_option maxHeartbeats 1000000 in
theorem dstart_no (u now : Int) (h : Dk w x g r y O p n d v S) (hz : S.bz = true) :
    Calls Try.prog 34 #[.pointer (some ⟨x, 0, none⟩), .int .u32 u, .int .i64 now] w fun e w' => e = .returned (.tuple #[]) ∧ w = w' := by
  have k7 := h.k7
  obtain ⟨s, hs⟩ : ∃ s, sw S.bz S.dn S.er = s := ⟨_, rfl⟩
  have e1 := sw_is1 S.bz S.dn S.er
  rw [hs] at e1 k7
  rw [hz] at e1
  clear hs hz
  go_enter Try.func34, Try.ntmps34
  go_wp2
  refine bodyPost_ret (results_none rfl _ _ _) rfl ?_
  exact ⟨rfl, rfl⟩
set_option maxRecDepth 100000 in
set_option maxHeartbeats 1000000 in
theorem dstart_yes (u now : Int) (h : Dk w x g r y O p n d v S) (hz : S.bz = false) (ha : 0 ≤ S.a ∧ S.a ≤ 1000000) (d0 : 0 ≤ d) (d1 : d < 16) (n0 : 0 ≤ now) (n1 : now ≤ 4611686018427387000) :
    Calls Try.prog 34 #[.pointer (some ⟨x, 0, none⟩), .int .u32 u, .int .i64 now] w (RetD (.tuple #[]) w x g r y O p n d v (startD u now S)) := by
  have k7 := h.k7
  have f7 := h.row.frozen 7
  have f6 := h.row.frozen 6
  have k6 := h.k6
  obtain ⟨s, hs⟩ : ∃ s, sw S.bz S.dn S.er = s := ⟨_, rfl⟩
  have e1 := sw_is1 S.bz S.dn S.er
  rw [hs] at e1 k7
  rw [hz] at e1
  obtain ⟨s2, hs2⟩ : ∃ s2, Hid (bits .or .u32 s 1 = s2) := ⟨_, Lib.hid rfl⟩
  have H0 := h.setN u
  have H1 : Hid (Dk ((w.setCell ⟨x, 6, none⟩ (.int .u32 u)).setCell ⟨x, 7, none⟩ (.int .u32 s2)) x g r y O p n d v { S with c := u, bz := true }) := H0.setS s2 true S.dn S.er (by rw [← hs2.out, ← hs]; exact sw_or1 _ _ _)
  have C1 : CD x g O v v w ((w.setCell ⟨x, 6, none⟩ (.int .u32 u)).setCell ⟨x, 7, none⟩ (.int .u32 s2)) := (CD.set x g O v w 6 (.int .u32 u)).trans (CD.set x g O v _ 7 (.int .u32 s2))
  clear hs hz H0
  obtain ⟨T, HT⟩ : ∃ T, Hid (IntKind.i64.wrap (now + 32) = T) := ⟨_, Lib.hid rfl⟩
  have hT : T = now + 32 := by rw [← HT.out, IntKind.wrap_i64]; omega
  have hok : okB d T = true := by unfold okB; apply decide_eq_true; omega
  have HA : Hid (startD u now S = { S with c := u, bz := true, q := some (T, S.a), a := S.a + 1 }) := by show _ = _; unfold startD; rw [hT]
  clear n0 n1 hT
  go_enter Try.func34, Try.ntmps34
  go_wp2_with fail
  rw [hs2.out]
  generalize (w.setCell ⟨x, 6, none⟩ (.int .u32 u)).setCell ⟨x, 7, none⟩ (.int .u32 s2) = w1 at H1 C1 ⊢
  have h1 := H1.out
  have hd : Dk w1.drew x g r y O p n d v { S with c := u, bz := true } := h1.drewN 1
  have hdw : Wh 83 w1.drew g v (qL d S.q) S.a := hd.wh
  have x0 : w1.drew.cell? ⟨x, 0, none⟩ = some (.int .i64 d) := hd.k0
  have x1 : w1.drew.cell? ⟨x, 1, none⟩ = some (.pointer (some ⟨g, 0, none⟩)) := hd.k1
  go_region_held3 (fun w' => w'.cell? ⟨x, 0, none⟩ = some (.int .i64 d) ∧ w'.cell? ⟨x, 1, none⟩ = some (.pointer (some ⟨g, 0, none⟩))) (first | with_reducible exact ⟨x0, x1⟩ | with_reducible exact ⟨y0, y1⟩)
    (first
      | (go_at_call 50; rw [HT.out]; (with_reducible refine (arm_T (W := w1.drew) T hdw hok ha).mono ?_); rintro e w4 ⟨rfl, v4, hw4, hch4⟩; have h4 := hd.wheel hw4 hch4; have y0 := h4.k0; have y1 := h4.k1))
  go_wp2
  go_end0
  exact ⟨rfl, v4, by rw [HA.out]; exact h4, (C1.trans (CD.drewN x g O v w1 1)).trans (CD.of_ch hch4)⟩
set_option maxRecDepth 100000 in
set_option maxHeartbeats 1000000 in
theorem dwrite_any (k : Nat) (z u now : Int) (h : Dk w x g r y O p n d v S) (hk : k ≤ 6) (hz : z = (k : Int) * 4) (u0 : 0 ≤ u) (u1 : u < 4294967296) (ha : 0 ≤ S.a ∧ S.a ≤ 1000000) (d0 : 0 ≤ d) (d1 : d < 16) (n0 : 0 ≤ now) (n1 : now ≤ 4611686018427387000) :
    Calls Try.prog 14 #[.pointer (some ⟨x, 0, none⟩), .int .u32 z, .int .u32 u, .int .i64 now] w (RetD (.bool (decide (k < 4))) w x g r y O p n d v (wrD k u now S)) := by
  have k4 := h.k4
  have k5 := h.k5
  have f4 := h.row.frozen 4
  have f5 := h.row.frozen 5
  have f7 := h.row.frozen 7
  have k7 := h.k7
  match k with
  | 0 =>
    obtain rfl : z = 0 := by omega
    clear hz hk
    go_enter Try.func14, Try.ntmps14
    go_wp2
    go_ret
    exact ⟨rfl, v, h.setZ u, CD.set x g O v w 4 _⟩
  | 1 =>
    obtain rfl : z = 4 := by omega
    clear hz hk
    go_enter Try.func14, Try.ntmps14
    go_wp2
    go_ret
    exact ⟨rfl, v, h.setT u, CD.set x g O v w 5 _⟩
  | 2 =>
    obtain rfl : z = 8 := by omega
    clear hz hk
    cases hb : S.bz
    · have HA : Hid (wrD 2 u now S = startD u now S) := by show ctlD u now S = _; unfold ctlD; rw [hb]
      go_enter Try.func14, Try.ntmps14
      go_wp2_with fail
      with_reducible refine (dstart_yes u now h hb ha d0 d1 n0 n1).mono ?_
      rintro e w1 ⟨rfl, v1, h1, hc⟩
      go_wp2
      go_ret
      exact ⟨rfl, v1, by rw [HA.out]; exact h1, hc⟩
    · have HA : Hid (wrD 2 u now S = S) := by show ctlD u now S = _; unfold ctlD; rw [hb]
      go_enter Try.func14, Try.ntmps14
      go_wp2_with fail
      with_reducible refine (dstart_no u now h hb).mono ?_
      rintro e w1 ⟨rfl, rfl⟩
      go_wp2
      go_ret
      exact ⟨rfl, v, by rw [HA.out]; exact h, CD.refl _ _ _ _ _⟩
  | 3 =>
    obtain rfl : z = 12 := by omega
    clear hz hk
    obtain ⟨s, hs⟩ : ∃ s, sw S.bz S.dn S.er = s := ⟨_, rfl⟩
    rw [hs] at k7
    obtain ⟨m, hm⟩ : ∃ m, Hid (bits .and .u32 u 6 = m) := ⟨_, Lib.hid rfl⟩
    obtain ⟨s2, hs2⟩ : ∃ s2, Hid (bits .andNot .u32 s m = s2) := ⟨_, Lib.hid rfl⟩
    have H1 : Hid (Dk (w.setCell ⟨x, 7, none⟩ (.int .u32 s2)) x g r y O p n d v (clrD u S)) := h.setS s2 S.bz (S.dn && !decide (u / 2 % 2 = 1)) (S.er && !decide (u / 4 % 2 = 1)) (by rw [← hs2.out, ← hm.out, ← hs, v_and6 u u0 u1]; exact sw_clr _ _ _ _ _)
    clear hs
    go_enter Try.func14, Try.ntmps14
    go_wp2
    rw [hm.out, hs2.out]
    go_ret
    exact ⟨rfl, v, H1.out, CD.set x g O v w 7 _⟩
  | 4 =>
    obtain rfl : z = 16 := by omega
    clear hz hk
    go_enter Try.func14, Try.ntmps14
    go_wp2
    go_ret
    exact ⟨rfl, v, h, CD.refl _ _ _ _ _⟩
  | 5 =>
    obtain rfl : z = 20 := by omega
    clear hz hk
    go_enter Try.func14, Try.ntmps14
    go_wp2
    go_ret
    exact ⟨rfl, v, h, CD.refl _ _ _ _ _⟩
  | 6 =>
    obtain rfl : z = 24 := by omega
    clear hz hk
    go_enter Try.func14, Try.ntmps14
    go_wp2
    go_ret
    exact ⟨rfl, v, h, CD.refl _ _ _ _ _⟩
  | k + 7 => exact absurd hk (by omega)
/-- Take of what is due -/
theorem dtake_yes {now : Int} (h : Dk w x g r y O p n d v S) (hd : duB now S = true) :
    Calls Try.prog 15 #[.pointer (some ⟨g, 0, none⟩), .int .i64 now] w (RetD (.tuple #[.agg #[.int .i64 (tmQ S), .int .i64 d, .int .i64 (sqQ S)], .bool true]) w x g r y O p n d v { S with q := none }) := by
  obtain ⟨hq, hle⟩ := due_cases hd
  have hl := qL_len d S.q
  have hL : qL d S.q = [⟨tmQ S, d, sqQ S⟩] := by rw [hq]; rfl
  have hw := h.wh
  refine (take_any now hw (by omega)).mono ?_
  rintro e w1 ⟨rfl, v2, hw2, hc⟩
  rw [hL] at hw2 ⊢
  have hB : dueB now [⟨tmQ S, d, sqQ S⟩] = true := decide_eq_true hle
  unfold takeV takeE
  unfold takeL at hw2
  rw [hB] at hw2 ⊢
  exact ⟨rfl, v2, h.wheel (q := none) hw2 hc, CD.of_ch hc⟩
theorem dtake_no {now : Int} (h : Dk w x g r y O p n d v S) (hd : duB now S = false) :
    Calls Try.prog 15 #[.pointer (some ⟨g, 0, none⟩), .int .i64 now] w (RetD (.tuple #[.agg #[.int .i64 0, .int .i64 0, .int .i64 0], .bool false]) w x g r y O p n d v S) := by
  have hl := qL_len d S.q
  have hB : dueB now (qL d S.q) = false := by rw [due_q d now S, hd]
  refine (take_any now h.wh (by omega)).mono ?_
  rintro e w1 ⟨rfl, v2, hw2, hc⟩
  unfold takeV takeE
  unfold takeL at hw2
  rw [hB] at hw2 ⊢
  exact ⟨rfl, v2, h.wheel (q := S.q) (a := S.a) hw2 hc, CD.of_ch hc⟩
end
end Go.Proofs.Ytifhnidcdfpabaa
