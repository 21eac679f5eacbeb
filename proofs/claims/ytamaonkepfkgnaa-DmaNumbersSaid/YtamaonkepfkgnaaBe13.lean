/-
  Chapter 13: the document's bus as far as a mover reaches: Set.
-/
import Derived.Test.YtamaonkepfkgnaaBd13
import Derived.Deep.RegionHeld3
namespace Go.Proofs.Ytamaonkepfkgnaa
open Go.RowKit
set_option linter.unusedVariables false
set_option linter.unusedSimpArgs false
theorem dl_wrap (now c : Int) (c0 : 0 ≤ c) (n0 : 0 ≤ now) (n1 : now ≤ 4611686018427387904) : IntKind.i64.wrap (IntKind.i64.wrap (now + IntKind.i64.wrap ((IntKind.i64.wrap (if 4096 < c then 4096 else c)).tdiv 4)) + 1) = now + dl c := by
  have e : (if 4096 < c then 4096 else c) = min c 4096 := by split <;> omega
  rw [e]
  unfold dl
  obtain ⟨k, hk⟩ : ∃ k, min c 4096 = k := ⟨_, rfl⟩
  have k0 : 0 ≤ k := by omega
  have k1 : k ≤ 4096 := by omega
  rw [hk]
  clear hk e c0
  have w1 : IntKind.i64.wrap k = k := by rw [IntKind.wrap_i64]; omega
  rw [w1, Int.tdiv_eq_ediv_of_nonneg k0]
  have w2 : IntKind.i64.wrap (k / 4) = k / 4 := by rw [IntKind.wrap_i64]; omega
  rw [w2]
  have w3 : IntKind.i64.wrap (now + k / 4) = now + k / 4 := by rw [IntKind.wrap_i64]; omega
  rw [w3, IntKind.wrap_i64]
  omega
section
variable {C : Nat → Value} {w w' : World} {m r : Nat} {O : Nat → Prop} {p : Nat} {u u2 : Value} {S S2 : DS}
set_option maxRecDepth 100000 in
set_option maxHeartbeats 1000000 in
theorem rdma3_yes (x now : Int) (h : Bu C w m r O p u S) (hx : x % 2 = 1) (hz : S.bz = false) (x0 : 0 ≤ x) (x1 : x < 4294967296) (ha : 0 ≤ S.a ∧ S.a ≤ 1000000) (c0 : 0 ≤ S.c) (c1 : S.c < 4294967296) (n0 : 0 ≤ now) (n1 : now ≤ 4611686018427387904) :
    Calls Try.prog 47 #[.pointer (some ⟨m, 0, none⟩), .int .u32 3, .int .u32 x, .int .i64 now] w (RetU (.bool true) C w m r O p u (startD now S)) := by
  have hv := v_and1 x x0 x1
  rw [hx] at hv
  have hv2 : (bits .and .u32 x 1 != 0) = true := by rw [hv]; rfl
  clear hv hx
  have k6 := h.b17
  have f6 := h.wb.st.frozen 17
  have k5 := h.b16
  obtain ⟨s, hs⟩ : ∃ s, sw S.bz S.dn S.er = s := ⟨_, rfl⟩
  have e1 := sw_is0 S.bz S.dn S.er
  rw [hs] at e1 k6
  rw [hz] at e1
  have e2 : (bits .and .u32 s 1 == 0) = true := e1
  clear e1
  obtain ⟨s2, hs2⟩ : ∃ s2, Hid (bits .or .u32 s 1 = s2) := ⟨_, Lib.hid rfl⟩
  have H1 : Hid (Bu C (w.setCell ⟨m, 17, none⟩ (.int .u32 s2)) m r O p u { S with bz := true }) := h.setS s2 true S.dn S.er (by rw [← hs2.out, ← hs]; exact sw_or1 _ _ _)
  have C1 : CD m m O u u w (w.setCell ⟨m, 17, none⟩ (.int .u32 s2)) := CD.set m m O u w 17 (.int .u32 s2)
  clear hs hz
  obtain ⟨c, hC⟩ : ∃ c, S.c = c := ⟨_, rfl⟩
  rw [hC] at k5 c0 c1
  obtain ⟨T, HT⟩ : ∃ T, Hid (IntKind.i64.wrap (IntKind.i64.wrap (now + IntKind.i64.wrap ((IntKind.i64.wrap (if 4096 < c then 4096 else c)).tdiv 4)) + 1) = T) := ⟨_, Lib.hid rfl⟩
  have hT : T = now + dl c := by rw [← HT.out]; exact dl_wrap now c c0 n0 n1
  obtain ⟨Y, HX⟩ : ∃ Y, Hid ((if 4096 < c then 4096 else c) = Y) := ⟨_, Lib.hid rfl⟩
  rw [HX.out] at HT
  have hok : okB 4 T = true := by unfold okB; apply decide_eq_true; have := dl_lo c0; omega
  have HA : Hid (startD now S = { S with bz := true, q := some (T, S.a), a := S.a + 1 }) := by show _ = _; unfold startD; rw [hT, hC]
  have HK : Hid (S.c = c) := hC
  clear hC hT n0 n1
  go_enter Try.func47, Try.ntmps47
  go_wp2_with fail
  rw [hs2.out]
  generalize w.setCell ⟨m, 17, none⟩ (.int .u32 s2) = w1 at H1 C1 ⊢
  have h1 := H1.out
  have hd : Bu C w1.drew m r O p u { S with bz := true } := h1.drewN 1
  have hdw : Wb (cD C r { S with bz := true }) w1.drew m u (qL 4 S.q) S.a := hd.wb
  have x1' : w1.drew.cell? ⟨m, 16, none⟩ = some (.int .u32 c) := HK.out ▸ hd.b16
  go_region_held3 (fun w' => w'.cell? ⟨m, 16, none⟩ = some (.int .u32 c)) (first | with_reducible exact x1' | with_reducible exact y1)
    (first
      | (go_at_call 39; rw [HX.out, HT.out]; (with_reducible refine (rarm_T (W := w1.drew) T hdw hok ha).mono ?_); rintro e w4 ⟨rfl, v4, hw4, hch4⟩; have h4 := hd.wheel hw4 hch4; have y1 : w4.cell? ⟨m, 16, none⟩ = some (.int .u32 c) := by rw [← HK.out]; exact h4.b16))
  go_wp2
  go_ret
  exact ⟨rfl, v4, by rw [HA.out]; exact h4, (C1.trans (CD.drewN m m O u w1 1)).trans (CD.of_ch hch4)⟩
set_option maxRecDepth 100000 in
set_option maxHeartbeats 1000000 in
theorem rdma3_no (x now : Int) (h : Bu C w m r O p u S) (hx : ¬ (x % 2 = 1 ∧ S.bz = false)) (x0 : 0 ≤ x) (x1 : x < 4294967296) :
    Calls Try.prog 47 #[.pointer (some ⟨m, 0, none⟩), .int .u32 3, .int .u32 x, .int .i64 now] w fun e w' => e = .returned (.bool true) ∧ w = w' := by
  have hv := v_and1 x x0 x1
  have k6 := h.b17
  obtain ⟨s, hs⟩ : ∃ s, sw S.bz S.dn S.er = s := ⟨_, rfl⟩
  have e1 := sw_is0 S.bz S.dn S.er
  rw [hs] at e1 k6
  by_cases hb : x % 2 = 1
  · rw [hb] at hv
    have hv2 : (bits .and .u32 x 1 != 0) = true := by rw [hv]; rfl
    have hz : S.bz = true := by
      cases hz : S.bz
      · exact absurd ⟨hb, hz⟩ hx
      · rfl
    rw [hz] at e1
    have e2 : (bits .and .u32 s 1 == 0) = false := e1
    clear e1 hv hb hx hz hs
    go_enter Try.func47, Try.ntmps47
    go_wp2
    go_ret
    exact ⟨rfl, rfl⟩
  · have hv2 : (bits .and .u32 x 1 != 0) = false := by rw [hv, show x % 2 = 0 by omega]; rfl
    clear e1 hv hb hx hs
    go_enter Try.func47, Try.ntmps47
    go_wp2
    go_ret
    exact ⟨rfl, rfl⟩
set_option maxRecDepth 100000 in
set_option maxHeartbeats 1000000 in
theorem rdma_any (k : Nat) (z x now : Int) (h : Bu C w m r O p u S) (hk : k ≤ 6) (hz : z = (k : Int)) (x0 : 0 ≤ x) (x1 : x < 4294967296) (ha : 0 ≤ S.a ∧ S.a ≤ 1000000) (c0 : 0 ≤ S.c) (c1 : S.c < 4294967296) (n0 : 0 ≤ now) (n1 : now ≤ 4611686018427387904) :
    Calls Try.prog 47 #[.pointer (some ⟨m, 0, none⟩), .int .u32 z, .int .u32 x, .int .i64 now] w (RetU (.bool (decide (k < 5))) C w m r O p u (wrD k x now S)) := by
  have k14 := h.b14
  have k15 := h.b15
  have k16 := h.b16
  have k17 := h.b17
  have f14 := h.wb.st.frozen 14
  have f15 := h.wb.st.frozen 15
  have f16 := h.wb.st.frozen 16
  have f17 := h.wb.st.frozen 17
  match k with
  | 0 =>
    obtain rfl : z = 0 := by omega
    clear hz hk
    go_enter Try.func47, Try.ntmps47
    go_wp2
    go_ret
    exact ⟨rfl, u, h.setF x, CD.set m m O u w 14 _⟩
  | 1 =>
    obtain rfl : z = 1 := by omega
    clear hz hk
    go_enter Try.func47, Try.ntmps47
    go_wp2
    go_ret
    exact ⟨rfl, u, h.setT x, CD.set m m O u w 15 _⟩
  | 2 =>
    obtain rfl : z = 2 := by omega
    clear hz hk
    go_enter Try.func47, Try.ntmps47
    go_wp2
    go_ret
    exact ⟨rfl, u, h.setN x, CD.set m m O u w 16 _⟩
  | 3 =>
    obtain rfl : z = 3 := by omega
    by_cases hc : x % 2 = 1 ∧ S.bz = false
    · have HA : wrD 3 x now S = startD now S := by show ctlD x now S = _; unfold ctlD; rw [if_pos hc]
      rw [HA]
      exact rdma3_yes x now h hc.1 hc.2 x0 x1 ha c0 c1 n0 n1
    · have HA : wrD 3 x now S = S := by show ctlD x now S = _; unfold ctlD; rw [if_neg hc]
      rw [HA]
      exact (rdma3_no x now h hc x0 x1).mono fun e w' ⟨he, hw⟩ => ⟨he, u, hw ▸ h, hw ▸ CD.refl _ _ _ _ _⟩
  | 4 =>
    obtain rfl : z = 4 := by omega
    clear hz hk
    obtain ⟨s, hs⟩ : ∃ s, sw S.bz S.dn S.er = s := ⟨_, rfl⟩
    rw [hs] at k17
    obtain ⟨y, hy⟩ : ∃ y, Hid (bits .and .u32 x 6 = y) := ⟨_, Lib.hid rfl⟩
    obtain ⟨s2, hs2⟩ : ∃ s2, Hid (bits .andNot .u32 s y = s2) := ⟨_, Lib.hid rfl⟩
    have H1 : Hid (Bu C (w.setCell ⟨m, 17, none⟩ (.int .u32 s2)) m r O p u (clrD x S)) := h.setS s2 S.bz (S.dn && !decide (x / 2 % 2 = 1)) (S.er && !decide (x / 4 % 2 = 1)) (by rw [← hs2.out, ← hy.out, ← hs, v_and6 x x0 x1]; exact sw_clr _ _ _ _ _)
    clear hs
    go_enter Try.func47, Try.ntmps47
    go_wp2
    rw [hy.out, hs2.out]
    go_ret
    exact ⟨rfl, u, H1.out, CD.set m m O u w 17 _⟩
  | 5 =>
    obtain rfl : z = 5 := by omega
    clear hz hk
    go_enter Try.func47, Try.ntmps47
    go_wp2
    go_ret
    exact ⟨rfl, u, h, CD.refl _ _ _ _ _⟩
  | 6 =>
    obtain rfl : z = 6 := by omega
    clear hz hk
    go_enter Try.func47, Try.ntmps47
    go_wp2
    go_ret
    exact ⟨rfl, u, h, CD.refl _ _ _ _ _⟩
  | k + 7 => exact absurd hk (by omega)
set_option maxRecDepth 100000 in
set_option maxHeartbeats 1000000 in
theorem rset_any (k : Nat) (z x now : Int) (h : Bu C w m r O p u S) (hk : k ≤ 6) (hz : z = (k : Int) * 4) (x0 : 0 ≤ x) (x1 : x < 4294967296) (ha : 0 ≤ S.a ∧ S.a ≤ 1000000) (c0 : 0 ≤ S.c) (c1 : S.c < 4294967296) (n0 : 0 ≤ now) (n1 : now ≤ 4611686018427387904) :
    Calls Try.prog 26 #[.pointer (some ⟨m, 0, none⟩), .int .i64 4, .int .u32 z, .int .u32 x, .int .i64 now] w (RetU (.bool (decide (k < 5))) C w m r O p u (wrD k x now S)) := by
  have hz2 : k = 0 ∧ z = 0 ∨ k = 1 ∧ z = 4 ∨ k = 2 ∧ z = 8 ∨ k = 3 ∧ z = 12 ∨ k = 4 ∧ z = 16 ∨ k = 5 ∧ z = 20 ∨ k = 6 ∧ z = 24 := by omega
  clear hz
  rcases hz2 with ⟨hk5, rfl⟩ | ⟨hk5, rfl⟩ | ⟨hk5, rfl⟩ | ⟨hk5, rfl⟩ | ⟨hk5, rfl⟩ | ⟨hk5, rfl⟩ | ⟨hk5, rfl⟩
  all_goals
    have H := Lib.hid hk5
    clear hk5
    go_enter Try.func26, Try.ntmps26
    go_wp2_with fail
    with_reducible refine (rdma_any k _ x now h hk (by have := H.out; omega) x0 x1 ha c0 c1 n0 n1).mono ?_
    rintro e w1 ⟨rfl, u2, h2, c2⟩
    go_wp2
    go_ret
    exact ⟨rfl, u2, h2, c2⟩
end
end Go.Proofs.Ytamaonkepfkgnaa
