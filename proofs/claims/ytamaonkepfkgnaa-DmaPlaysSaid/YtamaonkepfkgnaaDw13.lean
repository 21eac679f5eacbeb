/-
  Chapter 13: Write, Read, move, Fire of package dma; Take of its event.
-/
import Derived.Test.YtamaonkepfkgnaaDm13
namespace Go.Proofs.Ytamaonkepfkgnaa
open Go.RowKit
set_option linter.unusedVariables false
set_option linter.unusedSimpArgs false
section
variable {w : World} {x g r : Nat} {O : Nat → Prop} {p : Nat} {d : Int} {v : Value} {S : DS}
set_option maxRecDepth 100000 in
set_option maxHeartbeats 1000000 in
theorem dwrite_any (k : Nat) (z u now : Int) (h : Dm w x g r O p d v S) (hk : k ≤ 6) (hz : z = (k : Int) * 4) (u0 : 0 ≤ u) (u1 : u < 4294967296) (ha : 0 ≤ S.a ∧ S.a ≤ 1000000) (c0 : 0 ≤ S.c) (c1 : S.c < 4294967296) (d0 : 0 ≤ d) (d1 : d < 16) (n0 : 0 ≤ now) (n1 : now ≤ 4611686018427387904) :
    Calls Try.prog 15 #[.pointer (some ⟨x, 0, none⟩), .int .u32 z, .int .u32 u, .int .i64 now] w (RetD (.bool (decide (k < 5))) w x g r O p d v (wrD k u now S)) := by
  have k3 := h.k3
  have k4 := h.k4
  have k5 := h.k5
  have f3 := h.row.frozen 3
  have f4 := h.row.frozen 4
  have f5 := h.row.frozen 5
  have f6 := h.row.frozen 6
  have k6 := h.k6
  match k with
  | 0 =>
    obtain rfl : z = 0 := by omega
    clear hz hk
    go_enter Try.func15, Try.ntmps15
    go_wp2
    go_ret
    exact ⟨rfl, v, h.setF u, CD.set x g O v w 3 _⟩
  | 1 =>
    obtain rfl : z = 4 := by omega
    clear hz hk
    go_enter Try.func15, Try.ntmps15
    go_wp2
    go_ret
    exact ⟨rfl, v, h.setT u, CD.set x g O v w 4 _⟩
  | 2 =>
    obtain rfl : z = 8 := by omega
    clear hz hk
    go_enter Try.func15, Try.ntmps15
    go_wp2
    go_ret
    exact ⟨rfl, v, h.setN u, CD.set x g O v w 5 _⟩
  | 3 =>
    obtain rfl : z = 12 := by omega
    clear hz hk
    have hv := v_and1 u u0 u1
    by_cases h1 : u % 2 = 1
    · rw [h1] at hv
      have hv2 : (bits .and .u32 u 1 != 0) = true := by rw [hv]; rfl
      clear hv
      cases hb : S.bz
      · have HA : Hid (wrD 3 u now S = startD now S) := by show ctlD u now S = _; unfold ctlD; rw [if_pos ⟨h1, hb⟩]
        clear h1
        go_enter Try.func15, Try.ntmps15
        go_wp2_with fail
        with_reducible refine (dstart_yes now h hb ha c0 c1 d0 d1 n0 n1).mono ?_
        rintro e w1 ⟨rfl, v1, h1, hc⟩
        go_wp2
        go_ret
        exact ⟨rfl, v1, by rw [HA.out]; exact h1, hc⟩
      · have HA : Hid (wrD 3 u now S = S) := by show ctlD u now S = _; unfold ctlD; rw [if_neg (by rw [hb]; simp)]
        clear h1
        go_enter Try.func15, Try.ntmps15
        go_wp2_with fail
        with_reducible refine (dstart_no now h hb).mono ?_
        rintro e w1 ⟨rfl, rfl⟩
        go_wp2
        go_ret
        exact ⟨rfl, v, by rw [HA.out]; exact h, CD.refl _ _ _ _ _⟩
    · have hv2 : (bits .and .u32 u 1 != 0) = false := by rw [hv, show u % 2 = 0 by omega]; rfl
      clear hv
      have HA : Hid (wrD 3 u now S = S) := by show ctlD u now S = _; unfold ctlD; rw [if_neg (fun e => h1 e.1)]
      go_enter Try.func15, Try.ntmps15
      go_wp2
      go_ret
      exact ⟨rfl, v, by rw [HA.out]; exact h, CD.refl _ _ _ _ _⟩
  | 4 =>
    obtain rfl : z = 16 := by omega
    clear hz hk
    obtain ⟨s, hs⟩ : ∃ s, sw S.bz S.dn S.er = s := ⟨_, rfl⟩
    rw [hs] at k6
    obtain ⟨m, hm⟩ : ∃ m, Hid (bits .and .u32 u 6 = m) := ⟨_, Lib.hid rfl⟩
    obtain ⟨s2, hs2⟩ : ∃ s2, Hid (bits .andNot .u32 s m = s2) := ⟨_, Lib.hid rfl⟩
    have H1 : Hid (Dm (w.setCell ⟨x, 6, none⟩ (.int .u32 s2)) x g r O p d v (clrD u S)) := h.setS s2 S.bz (S.dn && !decide (u / 2 % 2 = 1)) (S.er && !decide (u / 4 % 2 = 1)) (by rw [← hs2.out, ← hm.out, ← hs, v_and6 u u0 u1]; exact sw_clr _ _ _ _ _)
    clear hs
    go_enter Try.func15, Try.ntmps15
    go_wp2
    rw [hm.out, hs2.out]
    go_ret
    exact ⟨rfl, v, H1.out, CD.set x g O v w 6 _⟩
  | 5 =>
    obtain rfl : z = 20 := by omega
    clear hz hk
    go_enter Try.func15, Try.ntmps15
    go_wp2
    go_ret
    exact ⟨rfl, v, h, CD.refl _ _ _ _ _⟩
  | 6 =>
    obtain rfl : z = 24 := by omega
    clear hz hk
    go_enter Try.func15, Try.ntmps15
    go_wp2
    go_ret
    exact ⟨rfl, v, h, CD.refl _ _ _ _ _⟩
  | k + 7 => exact absurd hk (by omega)
set_option maxRecDepth 100000 in
set_option maxHeartbeats 1000000 in
theorem dread_any (k : Nat) (z : Int) (h : Dm w x g r O p d v S) (hk : k ≤ 6) (hz : z = (k : Int) * 4) :
    Calls Try.prog 18 #[.pointer (some ⟨x, 0, none⟩), .int .u32 z] w fun e w' => e = .returned (.tuple #[.int .u32 (wordD k S), .bool (decide (k < 5))]) ∧ w = w' := by
  have k3 := h.k3
  have k4 := h.k4
  have k5 := h.k5
  have k6 := h.k6
  have hz2 : k = 0 ∧ z = 0 ∨ k = 1 ∧ z = 4 ∨ k = 2 ∧ z = 8 ∨ k = 3 ∧ z = 12 ∨ k = 4 ∧ z = 16 ∨ k = 5 ∧ z = 20 ∨ k = 6 ∧ z = 24 := by omega
  clear hz hk
  rcases hz2 with ⟨rfl, rfl⟩ | ⟨rfl, rfl⟩ | ⟨rfl, rfl⟩ | ⟨rfl, rfl⟩ | ⟨rfl, rfl⟩ | ⟨rfl, rfl⟩ | ⟨rfl, rfl⟩
  all_goals
    go_enter Try.func18, Try.ntmps18
    go_wp2
    go_ret2
    exact ⟨rfl, rfl⟩
/-- what is moved, if it may be -/
def movN (p : Nat) (S : DS) : Nat → Int := match movB p S with
  | true => movC S
  | false => S.C
set_option maxRecDepth 100000 in
set_option maxHeartbeats 1000000 in
theorem dmove_any (h : Dm w x g r O p d v S) (f0 : 0 ≤ S.f) (f1 : S.f < 4294967296) (t0 : 0 ≤ S.t) (t1 : S.t < 4294967296) (c0 : 0 ≤ S.c) (c1 : S.c < 4294967296) :
    Calls Try.prog 36 #[.pointer (some ⟨x, 0, none⟩)] w (RetD (.bool (movB p S)) w x g r O p d v { S with C := movN p S }) := by
  have k5 := h.k5
  by_cases hc : S.c ≤ 4096
  · have hd : Dm w.drew x g r O p d v S := h.drewN 1
    have hm : Ra 85 w.drew r O p S.C := hd.mm
    obtain ⟨F, hF⟩ : ∃ F, S.f = F := ⟨_, rfl⟩
    obtain ⟨T, hT⟩ : ∃ T, S.t = T := ⟨_, rfl⟩
    obtain ⟨c, hC⟩ : ∃ c : Nat, S.c = c := ⟨S.c.toNat, by omega⟩
    have x2 : w.drew.cell? ⟨x, 2, none⟩ = some (.pointer (some ⟨r, 0, none⟩)) := hd.k2
    have x3 : w.drew.cell? ⟨x, 3, none⟩ = some (.int .u32 F) := hF ▸ hd.k3
    have x5 : w.drew.cell? ⟨x, 5, none⟩ = some (.int .u32 c) := hC ▸ hd.k5
    have HB : Hid (movB p S = (inB p F c && inB p T c)) := by show _ = _; unfold movB; rw [decide_eq_true hc, hF, hT, hC]; rfl
    have HM : Hid (movC S = putC S.C T.toNat c (fun i => S.C (F.toNat + i))) := by show _ = _; unfold movC; rw [hF, hT, hC]; rfl
    have k4 : ∀ {w1 : World}, Dm w1 x g r O p d v S → w1.cell? ⟨x, 4, none⟩ = some (.int .u32 T) := fun h1 => hT ▸ h1.k4
    rw [hF] at f0 f1
    rw [hT] at t0 t1
    rw [hC] at hc k5
    clear hF hT hC c0 c1
    have HW : Hid (IntKind.i64.wrap (c : Int) = c) := by show _ = _; rw [IntKind.wrap_i64]; omega
    go_enter Try.func36, Try.ntmps36
    go_wp2_with fail
    go_region_held3 (fun w' => w'.cell? ⟨x, 2, none⟩ = some (.pointer (some ⟨r, 0, none⟩)) ∧ w'.cell? ⟨x, 3, none⟩ = some (.int .u32 F) ∧ w'.cell? ⟨x, 5, none⟩ = some (.int .u32 c)) (first | with_reducible exact ⟨x2, x3, x5⟩ | with_reducible exact ⟨y2, y3, y5⟩)
      (first
        | (go_at_call 14; rw [HW.out]; (with_reducible refine (mbytes_any (w := w.drew) F c hm f0 f1 (by omega) (by omega)).mono ?_); rintro e w4 ⟨u, rfl, hB, hF4⟩; have h4 := hd.no hF4; have y2 := h4.k2; have y3 : w4.cell? ⟨x, 3, none⟩ = some (.int .u32 F) := (cell_fr hF4 x3 id); have y5 : w4.cell? ⟨x, 5, none⟩ = some (.int .u32 c) := (cell_fr hF4 x5 id)))
    cases hi : inB p F c
    · have HI := Lib.hid hi
      have HN : Hid (movB p S = false) := by show _ = _; rw [HB.out, hi]; rfl
      clear hi
      go_wp2_with fail
      go_region
      all_goals
        go_wp2
        go_ret
        exact ⟨by rw [HN.out]; rfl, v, by unfold movN; rw [HN.out]; exact h4.drewN 1, ((CD.drewN x g O v w 1).trans (CD.of_no hF4)).trans (CD.drewN x g O v w4 1)⟩
    · have HI := Lib.hid hi
      have hcn : cnt p F c = c := by unfold cnt; rw [hi]; rfl
      rw [hcn] at hB
      have HN : Hid (movB p S = inB p T c) := by show _ = _; rw [HB.out, hi]; rfl
      have HU : Hid ({ S with C := movN p S } = { S with C := uC p S.C T c (fun i => S.C (F.toNat + i)) }) := by
        show _ = _
        unfold movN uC
        rw [HN.out]
        cases inB p T c
        · rfl
        · exact congrArg (fun C => { S with C := C }) HM.out
      clear hi hcn
      have h5 : Dm w4.drew x g r O p d v S := h4.drewN 1
      have hm5 : Ra 85 w4.drew r O p S.C := h5.mm
      have hB5 : ByAt (fun k => w.drew.heap.size ≤ k) w4.drew u c (fun i => S.C (F.toNat + i)) := hB.fr ((Fr.refl (fun _ => False) w4).drewN 1) (fun _ _ _ => id)
      have x2 : w4.drew.cell? ⟨x, 2, none⟩ = some (.pointer (some ⟨r, 0, none⟩)) := h5.k2
      have x4 : w4.drew.cell? ⟨x, 4, none⟩ = some (.int .u32 T) := k4 h5
      go_wp2_with fail
      go_region_held3 (fun w' => w'.cell? ⟨x, 2, none⟩ = some (.pointer (some ⟨r, 0, none⟩)) ∧ w'.cell? ⟨x, 4, none⟩ = some (.int .u32 T)) (first | with_reducible exact ⟨x2, x4⟩ | with_reducible exact ⟨y2, y4⟩)
        (first
          | (go_at_call 12; (with_reducible refine (mput_any (w := w4.drew) T u c (fun i => S.C (F.toNat + i)) hm5 hB5 t0 t1 (by omega)).mono ?_); rintro e w6 ⟨rfl, hm6, hF6⟩; have h6 := h5.mem hm6 hF6; have y2 := h6.k2; have y4 : w6.cell? ⟨x, 4, none⟩ = some (.int .u32 T) := (cell_fr hF6 x4 h5.xm)))
      go_wp2
      go_ret
      exact ⟨by rw [HN.out]; rfl, v, by rw [HU.out]; exact h6, (((CD.drewN x g O v w 1).trans (CD.of_no hF4)).trans (CD.drewN x g O v w4 1)).trans (CD.of_mem hF6)⟩
  · have HN : Hid (movB p S = false) := by show _ = _; unfold movB; rw [decide_eq_false hc]; rfl
    go_enter Try.func36, Try.ntmps36
    go_wp2
    go_ret
    exact ⟨by rw [HN.out]; rfl, v, by unfold movN; rw [HN.out]; exact h, CD.refl _ _ _ _ _⟩
set_option maxRecDepth 100000 in
set_option maxHeartbeats 1000000 in
theorem dfire_any (now : Int) (h : Dm w x g r O p d v S) (f0 : 0 ≤ S.f) (f1 : S.f < 4294967296) (t0 : 0 ≤ S.t) (t1 : S.t < 4294967296) (c0 : 0 ≤ S.c) (c1 : S.c < 4294967296) :
    Calls Try.prog 17 #[.pointer (some ⟨x, 0, none⟩), .int .i64 now] w (RetD (.tuple #[]) w x g r O p d v (fiD p S)) := by
  have k6 := h.k6
  have f6 := h.row.frozen 6
  obtain ⟨s, hs⟩ : ∃ s, sw S.bz S.dn S.er = s := ⟨_, rfl⟩
  rw [hs] at k6
  obtain ⟨s2, hs2⟩ : ∃ s2, Hid (bits .andNot .u32 s 1 = s2) := ⟨_, Lib.hid rfl⟩
  obtain ⟨s3, hs3⟩ : ∃ s3, Hid (bits .or .u32 s2 2 = s3) := ⟨_, Lib.hid rfl⟩
  have e2 : s2 = sw false S.dn S.er := by rw [← hs2.out, ← hs]; exact sw_not1 _ _ _
  have e3 : s3 = sw false true S.er := by rw [← hs3.out, e2]; exact sw_or2 _ _ _
  have h2 := h.setS s2 false S.dn S.er e2
  have H3 : Hid (Dm ((w.setCell ⟨x, 6, none⟩ (.int .u32 s2)).setCell ⟨x, 6, none⟩ (.int .u32 s3)) x g r O p d v { S with bz := false, dn := true }) := h2.setS s3 false true S.er e3
  have C3 : CD x g O v v w ((w.setCell ⟨x, 6, none⟩ (.int .u32 s2)).setCell ⟨x, 6, none⟩ (.int .u32 s3)) := (CD.set x g O v w 6 _).trans (CD.set x g O v _ 6 _)
  have E3 := Lib.hid e3
  clear hs e2 e3 h2
  cases hb : movB p S
  · have HM : Hid (movB p { S with bz := false, dn := true } = false) := hb
    have HF : Hid (fiD p S = { S with bz := false, dn := true, er := true }) := by show _ = _; unfold fiD; rw [hb]
    have HC : Hid (movN p { S with bz := false, dn := true } = S.C) := by show _ = _; unfold movN; rw [HM.out]
    clear hb
    go_enter Try.func17, Try.ntmps17
    go_wp2_with fail
    rw [hs2.out, hs3.out]
    generalize (w.setCell ⟨x, 6, none⟩ (.int .u32 s2)).setCell ⟨x, 6, none⟩ (.int .u32 s3) = w3 at H3 C3 ⊢
    with_reducible refine (dmove_any H3.out f0 f1 t0 t1 c0 c1).mono ?_
    rintro e w4 ⟨rfl, v4, h4, hc4⟩
    rw [HC.out] at h4
    rw [HM.out]
    have k6' := h4.k6
    have f6' := h4.row.frozen 6
    obtain ⟨s4, hs4⟩ : ∃ s4, sw false true S.er = s4 := ⟨_, rfl⟩
    obtain ⟨s5, hs5⟩ : ∃ s5, Hid (bits .or .u32 s4 4 = s5) := ⟨_, Lib.hid rfl⟩
    have H5 : Hid (Dm (w4.setCell ⟨x, 6, none⟩ (.int .u32 s5)) x g r O p d v4 { S with bz := false, dn := true, er := true }) := h4.setS s5 false true true (by rw [← hs5.out, ← hs4]; exact sw_or4 _ _ _)
    have k7 : w4.cell? ⟨x, 6, none⟩ = some (.int .u32 s4) := by rw [← hs4]; exact k6'
    clear hs4 k6'
    go_wp2
    rw [hs5.out]
    go_end0
    exact ⟨rfl, v4, by rw [HF.out]; exact H5.out, (C3.trans hc4).trans (CD.set x g O v4 w4 6 _)⟩
  · have HM : Hid (movB p { S with bz := false, dn := true } = true) := hb
    have HF : Hid (fiD p S = { S with bz := false, dn := true, C := movC S }) := by show _ = _; unfold fiD; rw [hb]
    have HC : Hid (movN p { S with bz := false, dn := true } = movC S) := by show _ = _; unfold movN; rw [HM.out]; rfl
    clear hb
    go_enter Try.func17, Try.ntmps17
    go_wp2_with fail
    rw [hs2.out, hs3.out]
    generalize (w.setCell ⟨x, 6, none⟩ (.int .u32 s2)).setCell ⟨x, 6, none⟩ (.int .u32 s3) = w3 at H3 C3 ⊢
    with_reducible refine (dmove_any H3.out f0 f1 t0 t1 c0 c1).mono ?_
    rintro e w4 ⟨rfl, v4, h4, hc4⟩
    rw [HC.out] at h4
    rw [HM.out]
    go_wp2
    go_end0
    exact ⟨rfl, v4, by rw [HF.out]; exact h4, C3.trans hc4⟩
/-- Take of what is due -/
theorem dtake_yes {now : Int} (h : Dm w x g r O p d v S) (hd : duB now S = true) :
    Calls Try.prog 16 #[.pointer (some ⟨g, 0, none⟩), .int .i64 now] w (RetD (.tuple #[.agg #[.int .i64 (tmQ S), .int .i64 d, .int .i64 (sqQ S)], .bool true]) w x g r O p d v { S with q := none }) := by
  obtain ⟨hq, hle⟩ := due_cases hd
  have hl := qL_len d S.q
  have hL : qL d S.q = [⟨tmQ S, d, sqQ S⟩] := by rw [hq]; rfl
  have hw := h.wh
  refine (take_any now hw (by omega)).mono ?_
  rintro e w1 ⟨rfl, v2, hw2, hc⟩
  rw [hL] at hw2 ⊢
  have hB : dueB now [⟨tmQ S, d, sqQ S⟩] = true := decide_eq_true hle
  unfold takeV takeE
  unfold takeL at hw2
  rw [hB] at hw2 ⊢
  exact ⟨rfl, v2, h.wheel (q := none) hw2 hc, CD.of_ch hc⟩
theorem dtake_no {now : Int} (h : Dm w x g r O p d v S) (hd : duB now S = false) :
    Calls Try.prog 16 #[.pointer (some ⟨g, 0, none⟩), .int .i64 now] w (RetD (.tuple #[.agg #[.int .i64 0, .int .i64 0, .int .i64 0], .bool false]) w x g r O p d v S) := by
  have hl := qL_len d S.q
  have hB : dueB now (qL d S.q) = false := by rw [due_q d now S, hd]
  refine (take_any now h.wh (by omega)).mono ?_
  rintro e w1 ⟨rfl, v2, hw2, hc⟩
  unfold takeV takeE
  unfold takeL at hw2
  rw [hB] at hw2 ⊢
  exact ⟨rfl, v2, h.wheel (q := S.q) (a := S.a) hw2 hc, CD.of_ch hc⟩
end
end Go.Proofs.Ytamaonkepfkgnaa
