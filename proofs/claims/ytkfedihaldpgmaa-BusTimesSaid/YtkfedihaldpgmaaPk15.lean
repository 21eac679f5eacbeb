/-
  Chapter 15: the program's bus: Load, Store, Type, Next, Raised, Ram, Out, Disk.
-/
import Derived.Test.YtkfedihaldpgmaaPj15
namespace Go.Proofs.Ytkfedihaldpgmaa
open Go.RowKit
set_option linter.unusedVariables false
set_option linter.unusedSimpArgs false
/-- what Load answers and leaves -/
def ldV (p : Nat) (a n now : Int) (S : BS) : Value := match decide (a < 1024 * p), wdB n a with
  | true, _ => loadV p S.C a n
  | false, true => .tuple #[.int .u32 (wordX (dvN a) (kN a) now S), .bool (decide (kN a < wordsN (dvN a)))]
  | false, false => .tuple #[.int .u32 0, .bool false]
def ldS (p : Nat) (a n : Int) (S : BS) : BS := match decide (a < 1024 * p), wdB n a with
  | true, _ => S
  | false, true => gat (readX (dvN a) (kN a) S)
  | false, false => S
/-- what Store answers and leaves -/
def stV (p : Nat) (a n : Int) : Bool := match decide (a < 1024 * p), wdB n a with
  | true, _ => okN p a n
  | false, true => decide (kN a < wordsN (dvN a))
  | false, false => false
def stS (p : Nat) (a n x now : Int) (S : BS) : BS := match decide (a < 1024 * p), wdB n a with
  | true, _ => { S with C := aC p S.C a n x }
  | false, true => gat (setB (dvN a) (kN a) x now S)
  | false, false => S
section
variable {w w' : World} {G : PG} {V : PV} {S : BS} {N : Int}
set_option maxRecDepth 100000 in
set_option maxHeartbeats 2000000 in
theorem bload_any (a n now : Int) (h : Px w G V S) (hG : Gk N S) (h0 : 0 ≤ a) (h1 : a < 4294967296) (m0 : -9223372036854775808 ≤ n) (m1 : n ≤ 9223372036854775807) (n0 : 0 ≤ now) (n1 : now ≤ 4611686018427387000) :
    Calls Try.prog 22 #[.pointer (some ⟨G.b, 0, none⟩), .int .u32 a, .int .i64 n, .int .i64 now] w (RetPx (ldV G.p a n now S) w G V (ldS G.p a n S)) := by
  have HI := Lib.hid (ismem_any a h h0 h1)
  have c0 : w.cell? ⟨G.b, 0, none⟩ = some (.pointer (some ⟨G.r, 0, none⟩)) := h.bb.cell (i := 0) (by omega)
  cases hm : decide (a < 1024 * (G.p : Int))
  · rw [hm] at HI
    have HW := Lib.hid (isword_any a n w h0 h1)
    cases hw : wdB n a
    · rw [hw] at HW
      have HV : Hid (ldV G.p a n now S = .tuple #[.int .u32 0, .bool false]) := by show _ = _; unfold ldV; rw [hm, hw]
      have HS : Hid (ldS G.p a n S = S) := by show _ = _; unfold ldS; rw [hm, hw]
      clear hm hw
      go_enter Try.func22, Try.ntmps22
      go_wp2_with fail
      with_reducible refine HI.out.mono ?_
      rintro e w1 ⟨rfl, rfl⟩
      go_wp2_with fail
      with_reducible refine HW.out.mono ?_
      rintro e w1 ⟨rfl, rfl⟩
      go_wp2
      go_ret2
      exact ⟨by rw [HV.out]; rfl, V, by rw [HS.out]; exact h, CP.refl _ _ _⟩
    · rw [hw] at HW
      have HV : Hid (ldV G.p a n now S = .tuple #[.int .u32 (wordX (dvN a) (kN a) now S), .bool (decide (kN a < wordsN (dvN a)))]) := by show _ = _; unfold ldV; rw [hm, hw]
      have HS : Hid (ldS G.p a n S = gat (readX (dvN a) (kN a) S)) := by show _ = _; unfold ldS; rw [hm, hw]
      have h4 : a % 4 = 0 := (of_decide_eq_true hw).2
      have HR := Lib.hid (bread_dk (dvN a) (kN a) a now h hG h0 h1 (plD_N a) (plK_N h4) (kN_le a) n0 n1)
      have hG2 := hG.rdX (dvN a) (kN a)
      clear hm hw h4
      go_enter Try.func22, Try.ntmps22
      go_wp2_with fail
      with_reducible refine HI.out.mono ?_
      rintro e w1 ⟨rfl, rfl⟩
      go_wp2_with fail
      with_reducible refine HW.out.mono ?_
      rintro e w1 ⟨rfl, rfl⟩
      go_wp2_with fail
      with_reducible refine HR.out.mono ?_
      rintro e w2 ⟨rfl, V2, h2, hc2⟩
      have HQ := Lib.hid (pgather_any h2 hG2)
      go_wp2_with fail
      with_reducible refine HQ.out.mono ?_
      rintro e w3 ⟨rfl, V3, h3, hc3⟩
      go_wp2
      go_ret2
      exact ⟨by rw [HV.out]; rfl, V3, by rw [HS.out]; exact h3, hc2.trans hc3⟩
  · rw [hm] at HI
    have HV : Hid (ldV G.p a n now S = loadV G.p S.C a n) := by show _ = _; unfold ldV; rw [hm]
    have HS : Hid (ldS G.p a n S = S) := by show _ = _; unfold ldS; rw [hm]
    obtain ⟨M, hM, _⟩ := h.mm.mem
    have HL := Lib.hid (mload_any a n hM h0 h1 m0 m1)
    have HV2 : Hid (loadV G.p S.C a n = .tuple #[.int .u32 (if okN G.p a n then ld S.C a.toNat n.toNat else 0), .bool (okN G.p a n)]) := Lib.hid rfl
    obtain ⟨lv, hlv⟩ : ∃ lv, (if okN G.p a n then ld S.C a.toNat n.toNat else 0) = lv := ⟨_, rfl⟩
    rw [hlv] at HV2
    rw [HV2.out] at HL
    clear hm hM hlv
    go_enter Try.func22, Try.ntmps22
    go_wp2_with fail
    with_reducible refine HI.out.mono ?_
    rintro e w1 ⟨rfl, rfl⟩
    go_wp2_with fail
    with_reducible refine HL.out.mono ?_
    rintro e w1 ⟨rfl, rfl⟩
    go_wp2
    go_ret2
    exact ⟨by rw [HV.out, HV2.out]; rfl, V, by rw [HS.out]; exact h, CP.refl _ _ _⟩
set_option maxRecDepth 100000 in
set_option maxHeartbeats 2000000 in
theorem bstore_any (a n x now : Int) (h : Px w G V S) (hG : Gk N S) (hN : N + 1 ≤ 60000) (h0 : 0 ≤ a) (h1 : a < 4294967296) (m0 : -9223372036854775808 ≤ n) (m1 : n ≤ 9223372036854775807) (hx : Wd x) (n0 : 0 ≤ now) (n1 : now ≤ 4611686018427387000) :
    Calls Try.prog 5 #[.pointer (some ⟨G.b, 0, none⟩), .int .u32 a, .int .i64 n, .int .u32 x, .int .i64 now] w (RetPx (.bool (stV G.p a n)) w G V (stS G.p a n x now S)) := by
  have HI := Lib.hid (ismem_any a h h0 h1)
  have c0 : w.cell? ⟨G.b, 0, none⟩ = some (.pointer (some ⟨G.r, 0, none⟩)) := h.bb.cell (i := 0) (by omega)
  cases hm : decide (a < 1024 * (G.p : Int))
  · rw [hm] at HI
    have HW := Lib.hid (isword_any a n w h0 h1)
    cases hw : wdB n a
    · rw [hw] at HW
      have HV : Hid (stV G.p a n = false) := by show _ = _; unfold stV; rw [hm, hw]
      have HS : Hid (stS G.p a n x now S = S) := by show _ = _; unfold stS; rw [hm, hw]
      clear hm hw
      go_enter Try.func5, Try.ntmps5
      go_wp2_with fail
      with_reducible refine HI.out.mono ?_
      rintro e w1 ⟨rfl, rfl⟩
      go_wp2_with fail
      with_reducible refine HW.out.mono ?_
      rintro e w1 ⟨rfl, rfl⟩
      go_wp2
      go_ret
      exact ⟨by rw [HV.out]; rfl, V, by rw [HS.out]; exact h, CP.refl _ _ _⟩
    · rw [hw] at HW
      have HV : Hid (stV G.p a n = decide (kN a < wordsN (dvN a))) := by show _ = _; unfold stV; rw [hm, hw]
      have HS : Hid (stS G.p a n x now S = gat (setB (dvN a) (kN a) x now S)) := by show _ = _; unfold stS; rw [hm, hw]
      have h4 : a % 4 = 0 := (of_decide_eq_true hw).2
      have HR := Lib.hid (bwrite_dk (dvN a) (kN a) a x now h hG (by omega) h0 h1 (plD_N a) (plK_N h4) (kN_le a) hx n0 n1)
      have hG2 := hG.setX (dvN a) (kN a) x now hx n0
      clear hm hw h4
      go_enter Try.func5, Try.ntmps5
      go_wp2_with fail
      with_reducible refine HI.out.mono ?_
      rintro e w1 ⟨rfl, rfl⟩
      go_wp2_with fail
      with_reducible refine HW.out.mono ?_
      rintro e w1 ⟨rfl, rfl⟩
      go_wp2_with fail
      with_reducible refine HR.out.mono ?_
      rintro e w2 ⟨rfl, V2, h2, hc2⟩
      have HQ := Lib.hid (pgather_any h2 hG2)
      go_wp2_with fail
      with_reducible refine HQ.out.mono ?_
      rintro e w3 ⟨rfl, V3, h3, hc3⟩
      go_wp2
      go_ret
      exact ⟨by rw [HV.out]; rfl, V3, by rw [HS.out]; exact h3, hc2.trans hc3⟩
  · rw [hm] at HI
    have HV : Hid (stV G.p a n = okN G.p a n) := by show _ = _; unfold stV; rw [hm]
    have HS : Hid (stS G.p a n x now S = { S with C := aC G.p S.C a n x }) := by show _ = _; unfold stS; rw [hm]
    have HL := Lib.hid (kstore_any a n x h.mm h0 h1 m0 m1 hx.1 hx.2)
    clear hm
    go_enter Try.func5, Try.ntmps5
    go_wp2_with fail
    with_reducible refine HI.out.mono ?_
    rintro e w1 ⟨rfl, rfl⟩
    go_wp2_with fail
    with_reducible refine HL.out.mono ?_
    rintro e w2 ⟨rfl, hm2, hf2⟩
    have h2 := h.outR hm2 hf2
    go_wp2
    go_ret
    exact ⟨by rw [HV.out]; rfl, V, by rw [HS.out]; exact h2.1, h2.2⟩
set_option maxRecDepth 100000 in
theorem bnext_any (h : Px w G V S) :
    Calls Try.prog 8 #[.pointer (some ⟨G.b, 0, none⟩)] w fun e w' => e = .returned (.tuple #[.int .i64 (nextV S.L), .bool (decide (0 < S.L.length))]) ∧ w = w' := by
  have HT := Lib.hid (next_any h.wh)
  have c1 : w.cell? ⟨G.b, 1, none⟩ = some (.pointer (some ⟨G.g, 0, none⟩)) := h.bb.cell (i := 1) (by omega)
  go_enter Try.func8, Try.ntmps8
  go_wp2_with fail
  with_reducible refine HT.out.mono ?_
  rintro e w1 ⟨rfl, rfl⟩
  go_wp2
  go_ret2
  exact ⟨rfl, rfl⟩
set_option maxRecDepth 100000 in
theorem braised_any (h : Px w G V S) :
    Calls Try.prog 7 #[.pointer (some ⟨G.b, 0, none⟩)] w fun e w' => e = .returned (.bool (raisB S.up S.ask)) ∧ ∃ n, w' = w.drewN n := by
  have HT := Lib.hid (lnraised_any h.ln)
  have c2 : w.cell? ⟨G.b, 2, none⟩ = some (.pointer (some ⟨G.l, 0, none⟩)) := h.bb.cell (i := 2) (by omega)
  go_enter Try.func7, Try.ntmps7
  go_wp2_with fail
  with_reducible refine HT.out.mono ?_
  rintro e w1 ⟨rfl, k, rfl⟩
  go_wp2
  go_ret
  exact ⟨rfl, k, rfl⟩
theorem bram_any (h : Px w G V S) :
    Calls Try.prog 23 #[.pointer (some ⟨G.b, 0, none⟩)] w fun e w' => e = .returned (.pointer (some ⟨G.r, 0, none⟩)) ∧ w = w' := by
  have c0 : w.cell? ⟨G.b, 0, none⟩ = some (.pointer (some ⟨G.r, 0, none⟩)) := h.bb.cell (i := 0) (by omega)
  go_enter Try.func23, Try.ntmps23
  go_wp2
  go_ret
  exact ⟨rfl, rfl⟩
end
end Go.Proofs.Ytkfedihaldpgmaa
