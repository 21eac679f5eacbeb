/-
  Chapter 15: the document's bus: where, Next, Raised, Load, Store, Type, in the one state.
-/
import Derived.Test.YtkfedihaldpgmaaGreatBg15
import Derived.Test.YtkfedihaldpgmaaGreatPk15
namespace Go.Proofs.YtkfedihaldpgmaaGreat
open Go.RowKit
set_option linter.unusedVariables false
set_option linter.unusedSimpArgs false
/-- it is a device's word -/
def whB (a n : Int) : Bool := wdB n a && decide (520093696 ≤ a ∧ a < 520094080)
theorem whB_d {a n : Int} (h : whB a n = true) : dvN a < 6 ∧ a % 4 = 0 ∧ n = 4 ∧ 520093696 ≤ a ∧ a < 520094080 := by
  unfold whB wdB at h
  simp only [Bool.and_eq_true, decide_eq_true_eq] at h
  refine ⟨?_, h.1.2, h.1.1, h.2.1, h.2.2⟩
  unfold dvN plD
  omega
theorem whB_n {a n : Int} (h : whB a n = false) (hw : wdB n a = true) (h0 : 0 ≤ a) (h1 : a < 4294967296) : 6 ≤ dvN a := by
  unfold whB at h
  rw [hw] at h
  simp only [Bool.true_and, decide_eq_false_iff_not] at h
  unfold dvN plD
  omega
section
variable {w w' : World} {m r y : Nat} {O : Nat → Prop} {p n : Nat} {V : SV} {S : BS} {N : Int}
set_option maxRecDepth 100000 in
theorem where_yes (a k : Int) (w : World) (h : whB a k = true) :
    Calls Tryz.prog 27 #[.int .u32 a, .int .i64 k] w fun e w' => e = .returned (.tuple #[.int .i64 (plD a), .int .u32 (plK a), .bool true]) ∧ w = w' := by
  obtain ⟨hd, h4, hn, h0, h1⟩ := whB_d h
  subst hn
  have HD : Hid ((a - 520093696) / 64 = plD a) := Lib.hid (by unfold plD; omega)
  have HK : Hid ((a - 520093696) % 64 = plK a) := Lib.hid (by unfold plK; omega)
  have hb1 : ¬ a < 520093696 := by omega
  have hb2 : ¬ 520094080 ≤ a := by omega
  clear h hd
  go_enter Tryz.func27, Tryz.ntmps27
  go_wp2
  refine bodyPost_ret (v := .tuple #[.int .i64 (plD a), .int .u32 (plK a), .bool true]) ?_ rfl ?_
  · simp [results, go_sem]
    first | exact ⟨HD.out, HK.out⟩ | (refine ⟨?_, ?_⟩ <;> unfold plD plK <;> omega) | omega
  · exact ⟨rfl, rfl⟩
set_option maxRecDepth 100000 in
theorem where_no (a k : Int) (w : World) (h : whB a k = false) :
    Calls Tryz.prog 27 #[.int .u32 a, .int .i64 k] w fun e w' => e = .returned (.tuple #[.int .i64 0, .int .u32 0, .bool false]) ∧ w = w' := by
  by_cases hk : k = 4
  · subst hk
    by_cases h0 : a < 520093696
    · clear h
      go_enter Tryz.func27, Tryz.ntmps27
      go_wp2
      refine bodyPost_ret (v := .tuple #[.int .i64 0, .int .u32 0, .bool false]) (by simp [results, go_sem]) rfl ⟨rfl, rfl⟩
    · by_cases h1 : 520094080 ≤ a
      · clear h
        go_enter Tryz.func27, Tryz.ntmps27
        go_wp2
        refine bodyPost_ret (v := .tuple #[.int .i64 0, .int .u32 0, .bool false]) (by simp [results, go_sem]) rfl ⟨rfl, rfl⟩
      · have h4 : ¬ a % 4 = 0 := fun e => by
          unfold whB wdB at h
          rw [decide_eq_true ⟨rfl, e⟩, decide_eq_true (by omega)] at h
          exact absurd h (by decide)
        have hb : (a % 4 != 0) = true := by simpa using h4
        clear h h4
        go_enter Tryz.func27, Tryz.ntmps27
        go_wp2
        refine bodyPost_ret (v := .tuple #[.int .i64 0, .int .u32 0, .bool false]) (by simp [results, go_sem]) rfl ⟨rfl, rfl⟩
  · have hb : (k != 4) = true := by simpa using hk
    clear h
    go_enter Tryz.func27, Tryz.ntmps27
    go_wp2
    refine bodyPost_ret (v := .tuple #[.int .i64 0, .int .u32 0, .bool false]) (by simp [results, go_sem]) rfl ⟨rfl, rfl⟩
set_option maxRecDepth 100000 in
theorem rnext_any (h : Bx w m r y O p n V S) :
    Calls Tryz.prog 35 #[.pointer (some ⟨m, 0, none⟩)] w fun e w' => e = .returned (.tuple #[.int .i64 (nextV S.L), .bool (decide (0 < S.L.length))]) ∧ w = w' := by
  have c0 := h.wb.c0
  obtain ⟨L, hL⟩ : ∃ L, S.L = L := ⟨_, rfl⟩
  have hev := h.wb.ev
  rw [hL] at hev ⊢
  clear hL
  obtain ⟨A, c, hv, hc, hcm, hz, hA⟩ := hev.form
  rw [hv] at c0 hev
  have HA := Lib.hid hA
  clear hA hz hv
  by_cases h0 : 0 < L.length
  · obtain ⟨b, rfl⟩ := HA.out h0
    obtain ⟨q0, q1, q2⟩ := hev.at h0
    have hN := Lib.hid (nextV_cons h0)
    have hne : ((L.length : Int) == 0) = false := beq_false_of_ne (by omega)
    rw [Nat.zero_mul] at q0
    go_enter Tryz.func35, Tryz.ntmps35
    go_wp2
    go_ret2
    exact ⟨by rw [hN.out, decide_eq_true h0]; rfl, rfl⟩
  · have hn : L.length = 0 := by omega
    have hL : L = [] := List.eq_nil_of_length_eq_zero hn
    subst hL
    clear h0 hn
    go_enter Tryz.func35, Tryz.ntmps35
    go_wp2
    go_ret2
    exact ⟨rfl, rfl⟩
set_option maxRecDepth 100000 in
theorem rraised_any (h : Bx w m r y O p n V S) :
    Calls Tryz.prog 37 #[.pointer (some ⟨m, 0, none⟩)] w fun e w' => e = .returned (.bool (raisB S.up S.ask)) ∧ ∃ n, w' = w.drewN n := by
  have c23 := h.b23
  have c24 := h.b24
  go_enter Tryz.func37, Tryz.ntmps37
  go_wp2
  go_region
  go_wp2
  go_ret
  exact ⟨rfl, 1, rfl⟩
/-- the document's memory's length -/
theorem Mk.len (hm : Mk 62 w r y O p n S.C S.D) : ∃ b, w.cell? ⟨r, 0, none⟩ = some (.slice (some ⟨b, 0, none⟩) (1024 * p) (1024 * p)) ∧ p ≤ 64 := by
  obtain ⟨M, hM, _⟩ := hm.mem
  obtain ⟨b, mm, tt, _, hmem⟩ := hM
  exact ⟨b, hmem.cell0, hmem.p2⟩
theorem rload_mk (a k : Int) (hm : Mk 62 w r y O p n S.C S.D) (h0 : 0 ≤ a) (h1 : a < 4294967296) (m0 : -9223372036854775808 ≤ k) (m1 : k ≤ 9223372036854775807) :
    Calls Tryz.prog 26 #[.pointer (some ⟨r, 0, none⟩), .int .u32 a, .int .i64 k] w fun e w' => e = .returned (loadV p S.C a k) ∧ w = w' := by
  obtain ⟨M, hM, _⟩ := hm.mem
  obtain ⟨b, mm, tt, _, hmem⟩ := hM
  exact rload_any a k hmem h0 h1 m0 m1
set_option maxRecDepth 100000 in
set_option maxHeartbeats 2000000 in
theorem rbload_any (a k now : Int) (h : Bx w m r y O p n V S) (hG : Gk N S) (hgt : gat S = S) (h0 : 0 ≤ a) (h1 : a < 4294967296) (m0 : -9223372036854775808 ≤ k) (m1 : k ≤ 9223372036854775807) (n0 : 0 ≤ now) (n1 : now ≤ 4611686018427387000) :
    Calls Tryz.prog 8 #[.pointer (some ⟨m, 0, none⟩), .int .u32 a, .int .i64 k, .int .i64 now] w (RetN (ldV p a k now S) w m r y O p n V (ldS p a k S)) := by
  obtain ⟨bb, c0r, p64⟩ := h.mm.len
  have c0 := h.b0
  cases hm : decide (a < 1024 * (p : Int))
  · have hnm : ¬ a < 1024 * (p : Int) := of_decide_eq_false hm
    cases hw : whB a k
    · have HW := Lib.hid (where_no a k w hw)
      have HV : Hid (ldV p a k now S = .tuple #[.int .u32 0, .bool false]) := by
        show _ = _
        unfold ldV
        rw [hm]
        cases hwd : wdB k a
        · rfl
        · have h6 := whB_n hw hwd h0 h1
          obtain ⟨j, hj⟩ : ∃ j, dvN a = j + 6 := ⟨dvN a - 6, by omega⟩
          show Value.tuple #[.int .u32 (wordX (dvN a) (kN a) now S), .bool (decide (kN a < wordsN (dvN a)))] = _
          rw [hj]
          show Value.tuple #[.int .u32 0, .bool (decide (kN a < 0))] = _
          rw [decide_eq_false (by omega)]
      have HS : Hid (ldS p a k S = S) := by
        show _ = _
        unfold ldS
        rw [hm]
        cases hwd : wdB k a
        · rfl
        · have h6 := whB_n hw hwd h0 h1
          obtain ⟨j, hj⟩ : ∃ j, dvN a = j + 6 := ⟨dvN a - 6, by omega⟩
          show gat (readX (dvN a) (kN a) S) = S
          rw [hj]
          exact hgt
      clear hm hw hgt
      go_enter Tryz.func8, Tryz.ntmps8
      go_wp2_with fail
      with_reducible refine HW.out.mono ?_
      rintro e w1 ⟨rfl, rfl⟩
      go_wp2
      go_ret2
      exact ⟨by rw [HV.out]; rfl, V, by rw [HS.out]; exact h, CB.refl _ _ _ _⟩
    · obtain ⟨hd6, h4, hk4, _, _⟩ := whB_d hw
      have HW := Lib.hid (where_yes a k w hw)
      have hwd : wdB k a = true := decide_eq_true ⟨hk4, h4⟩
      have HV : Hid (ldV p a k now S = .tuple #[.int .u32 (wordX (dvN a) (kN a) now S), .bool (decide (kN a < wordsN (dvN a)))]) := by show _ = _; unfold ldV; rw [hm, hwd]
      have HS : Hid (ldS p a k S = gat (readX (dvN a) (kN a) S)) := by show _ = _; unfold ldS; rw [hm, hwd]
      have HR := Lib.hid (bword_any (dvN a) (kN a) now h hd6 (kN_le a) hG.bt.cl hG.bt.gl n0 n1)
      have HP : Hid (plD a = (dvN a : Int) ∧ plK a = (kN a : Int) * 4) := Lib.hid ⟨plD_N a, plK_N h4⟩
      rw [HP.out.1, HP.out.2] at HW
      clear hm hw hgt hwd h4 hk4 hd6
      go_enter Tryz.func8, Tryz.ntmps8
      go_wp2_with fail
      with_reducible refine HW.out.mono ?_
      rintro e w1 ⟨rfl, rfl⟩
      go_wp2_with fail
      with_reducible refine HR.out.mono ?_
      rintro e w2 ⟨rfl, V2, h2, hc2⟩
      have HQ := Lib.hid (rgather_any h2)
      go_wp2_with fail
      with_reducible refine HQ.out.mono ?_
      rintro e w3 ⟨rfl, V3, h3, hc3⟩
      go_wp2
      go_ret2
      exact ⟨by rw [HV.out]; rfl, V3, by rw [HS.out]; exact h3, hc2.trans hc3⟩
  · have hnm : a < 1024 * (p : Int) := of_decide_eq_true hm
    have HV : Hid (ldV p a k now S = loadV p S.C a k) := by show _ = _; unfold ldV; rw [hm]
    have HS : Hid (ldS p a k S = S) := by show _ = _; unfold ldS; rw [hm]
    have HL := Lib.hid (rload_mk a k h.mm h0 h1 m0 m1)
    have HV2 : Hid (loadV p S.C a k = .tuple #[.int .u32 (if okN p a k then ld S.C a.toNat k.toNat else 0), .bool (okN p a k)]) := Lib.hid rfl
    obtain ⟨lv, hlv⟩ : ∃ lv, (if okN p a k then ld S.C a.toNat k.toNat else 0) = lv := ⟨_, rfl⟩
    rw [hlv] at HV2
    rw [HV2.out] at HL
    clear hm hlv hgt
    go_enter Tryz.func8, Tryz.ntmps8
    go_wp2_with fail
    with_reducible refine HL.out.mono ?_
    rintro e w1 ⟨rfl, rfl⟩
    go_wp2
    go_ret2
    exact ⟨by rw [HV.out, HV2.out]; rfl, V, by rw [HS.out]; exact h, CB.refl _ _ _ _⟩
set_option maxRecDepth 100000 in
set_option maxHeartbeats 2000000 in
theorem rbstore_any (a k x now : Int) (h : Bx w m r y O p n V S) (hG : Gk N S) (hN : N + 1 ≤ 60000) (hgt : gat S = S) (h0 : 0 ≤ a) (h1 : a < 4294967296) (m0 : -9223372036854775808 ≤ k) (m1 : k ≤ 9223372036854775807) (hx : Wd x) (n0 : 0 ≤ now) (n1 : now ≤ 4611686018427387000) :
    Calls Tryz.prog 10 #[.pointer (some ⟨m, 0, none⟩), .int .u32 a, .int .i64 k, .int .u32 x, .int .i64 now] w (RetN (.bool (stV p a k)) w m r y O p n V (stS p a k x now S)) := by
  obtain ⟨bb, c0r, p64⟩ := h.mm.len
  have c0 := h.b0
  cases hm : decide (a < 1024 * (p : Int))
  · have hnm : ¬ a < 1024 * (p : Int) := of_decide_eq_false hm
    cases hw : whB a k
    · have HW := Lib.hid (where_no a k w hw)
      have HV : Hid (stV p a k = false) := by
        show _ = _
        unfold stV
        rw [hm]
        cases hwd : wdB k a
        · rfl
        · have h6 := whB_n hw hwd h0 h1
          obtain ⟨j, hj⟩ : ∃ j, dvN a = j + 6 := ⟨dvN a - 6, by omega⟩
          show decide (kN a < wordsN (dvN a)) = _
          rw [hj]
          exact decide_eq_false (by show ¬ kN a < 0; omega)
      have HS : Hid (stS p a k x now S = S) := by
        show _ = _
        unfold stS
        rw [hm]
        cases hwd : wdB k a
        · rfl
        · have h6 := whB_n hw hwd h0 h1
          obtain ⟨j, hj⟩ : ∃ j, dvN a = j + 6 := ⟨dvN a - 6, by omega⟩
          show gat (setB (dvN a) (kN a) x now S) = S
          rw [hj]
          exact hgt
      clear hm hw hgt
      go_enter Tryz.func10, Tryz.ntmps10
      go_wp2_with fail
      with_reducible refine HW.out.mono ?_
      rintro e w1 ⟨rfl, rfl⟩
      go_wp2
      go_ret
      exact ⟨by rw [HV.out]; rfl, V, by rw [HS.out]; exact h, CB.refl _ _ _ _⟩
    · obtain ⟨hd6, h4, hk4, _, _⟩ := whB_d hw
      have HW := Lib.hid (where_yes a k w hw)
      have hwd : wdB k a = true := decide_eq_true ⟨hk4, h4⟩
      have HV : Hid (stV p a k = decide (kN a < wordsN (dvN a))) := by show _ = _; unfold stV; rw [hm, hwd]
      have HS : Hid (stS p a k x now S = gat (setB (dvN a) (kN a) x now S)) := by show _ = _; unfold stS; rw [hm, hwd]
      have hGs : Gs S := ⟨hG.a6 (by omega), hG.l6 (by omega), hG.wo.p0, hG.wo.p1, hG.wo.n⟩
      have HR := Lib.hid (bset_any (dvN a) (kN a) x now h hd6 (kN_le a) hGs hx.1 hx.2 n0 n1)
      have HP : Hid (plD a = (dvN a : Int) ∧ plK a = (kN a : Int) * 4) := Lib.hid ⟨plD_N a, plK_N h4⟩
      rw [HP.out.1, HP.out.2] at HW
      clear hm hw hgt hwd h4 hk4 hd6
      go_enter Tryz.func10, Tryz.ntmps10
      go_wp2_with fail
      with_reducible refine HW.out.mono ?_
      rintro e w1 ⟨rfl, rfl⟩
      go_wp2_with fail
      with_reducible refine HR.out.mono ?_
      rintro e w2 ⟨rfl, V2, h2, hc2⟩
      have HQ := Lib.hid (rgather_any h2)
      go_wp2_with fail
      with_reducible refine HQ.out.mono ?_
      rintro e w3 ⟨rfl, V3, h3, hc3⟩
      go_wp2
      go_ret
      exact ⟨by rw [HV.out]; rfl, V3, by rw [HS.out]; exact h3, hc2.trans hc3⟩
  · have hnm : a < 1024 * (p : Int) := of_decide_eq_true hm
    have HV : Hid (stV p a k = okN p a k) := by show _ = _; unfold stV; rw [hm]
    have HS : Hid (stS p a k x now S = { S with C := aC p S.C a k x }) := by show _ = _; unfold stS; rw [hm]
    have HL := Lib.hid (lstore_any a k x h.mm h0 h1 m0 m1 hx.1 hx.2)
    clear hm hgt
    go_enter Tryz.func10, Tryz.ntmps10
    go_wp2_with fail
    with_reducible refine HL.out.mono ?_
    rintro e w2 ⟨rfl, hm2, hf2⟩
    have h2 := h.mem hm2 hf2
    go_wp2
    go_ret
    exact ⟨by rw [HV.out]; rfl, V, by rw [HS.out]; exact h2, CB.of_mem hf2⟩
end
end Go.Proofs.YtkfedihaldpgmaaGreat
