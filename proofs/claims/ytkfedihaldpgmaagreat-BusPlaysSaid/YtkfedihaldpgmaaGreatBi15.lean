/-
  Chapter 15: the document's bus: B1, Fire, Type, in the one state.
-/
import Derived.Test.YtkfedihaldpgmaaGreatBh15
namespace Go.Proofs.YtkfedihaldpgmaaGreat
open Go.RowKit
set_option linter.unusedVariables false
set_option linter.unusedSimpArgs false
section
variable {w w' : World} {m r y : Nat} {O : Nat → Prop} {p n : Nat} {V : SV} {S : BS} {N : Int}
set_option maxRecDepth 100000 in
theorem b1_none (t d sq : Int) (h : Bx w m r y O p n V S) (hd : d ≠ 1 ∧ d ≠ 2 ∧ d ≠ 3 ∧ d ≠ 4 ∧ d ≠ 5) :
    Calls Tryz.prog 44 #[.pointer (some ⟨m, 0, none⟩), .agg #[.int .i64 t, .int .i64 d, .int .i64 sq]] w (RetN (.tuple #[]) w m r y O p n V S) := by
  have hB : Below w.heap.size w (w.alloc (.cells #[.int .i64 t, .int .i64 d, .int .i64 sq] 84)) := (Below.refl _ _).alloc (Nat.le_refl _) _
  have h0 := h.below hB
  have hC0 : CB m O V V w (w.alloc (.cells #[.int .i64 t, .int .i64 d, .int .i64 sq] 84)) := CB.of_below hB
  obtain ⟨d1, d2, d3, d4, d5⟩ := hd
  have e1 : (d == 1) = false := beq_false_of_ne d1
  have e2 : (d == 2) = false := beq_false_of_ne d2
  have e3 : (d == 3) = false := beq_false_of_ne d3
  have e4 : (d == 4) = false := beq_false_of_ne d4
  have e5 : (d == 5) = false := beq_false_of_ne d5
  clear hB d1 d2 d3 d4 d5
  go_enter Tryz.func44, Tryz.ntmps44
  go_wp2
  go_end0
  exact ⟨rfl, V, h0, hC0⟩
theorem b1_any (t d sq : Int) (h : Bx w m r y O p n V S) (hG : Gk N S) (hN : N ≤ 60000) (hn : n ≤ 64) (n0 : 0 ≤ t) (n1 : t ≤ 4611686018427387000) :
    Calls Tryz.prog 44 #[.pointer (some ⟨m, 0, none⟩), .agg #[.int .i64 t, .int .i64 d, .int .i64 sq]] w (RetN (.tuple #[]) w m r y O p n V (fireX p n d t S)) := by
  unfold fireX
  by_cases h1 : d = 1
  · subst h1; rw [if_pos rfl]; exact b1_t0 t sq h (hG.l6 hN) (hG.a6 hN) hG.wo.p0.1 hG.wo.p0.2 n0 n1
  rw [if_neg h1]
  by_cases h2 : d = 2
  · subst h2; rw [if_pos rfl]; exact b1_t1 t sq h (hG.l6 hN) (hG.a6 hN) hG.wo.p1.1 hG.wo.p1.2 n0 n1
  rw [if_neg h2]
  by_cases h3 : d = 3
  · subst h3; rw [if_pos rfl]
    match hq : S.goes with
    | [] =>
      have : fiU t S = S := by unfold fiU; rw [hq]
      rw [this]
      exact b1_u0 t sq h hq
    | b :: L =>
      have hgl := hG.bt.gl
      rw [hq] at hgl
      exact b1_u1 t sq b h hq (by have := hG.o1; omega) (by simp at hgl; omega) (hG.l6 hN) (hG.a6 hN) n0 n1
  rw [if_neg h3]
  by_cases h4 : d = 4
  · subst h4; rw [if_pos rfl]; exact b1_dma t sq h hG.wo.f.1 hG.wo.f.2 hG.wo.t.1 hG.wo.t.2 hG.wo.n.1 hG.wo.n.2
  rw [if_neg h4]
  by_cases h5 : d = 5
  · subst h5; rw [if_pos rfl]; exact b1_disk t sq h hn hG.wo.z.1 hG.wo.z.2 hG.wo.kt.1 hG.wo.kt.2
  rw [if_neg h5]
  exact b1_none t d sq h ⟨h1, h2, h3, h4, h5⟩
set_option maxRecDepth 100000 in
set_option maxHeartbeats 2000000 in
theorem rfire_any (now : Int) (h : Bx w m r y O p n V S) (hG : Gk N S) (hN : N + 256 ≤ 60000) (hn : n ≤ 64) (n0 : 0 ≤ now) (n1 : now ≤ 4611686018427387000) :
    Calls Tryz.prog 13 #[.pointer (some ⟨m, 0, none⟩), .int .i64 now] w (RetN (.int .i64 (runC p n now 256 S : Int)) w m r y O p n V (gat (runS p n now 256 S))) := by
  go_enter Tryz.func13, Tryz.ntmps13
  go_wp2
  go_loopg [5] 256 (fun gh i wr => ∃ (k : Nat) (T : BS) (V1 : SV), k + gh = 256 ∧ i = .int .i64 k ∧ Bx wr m r y O p n V1 T ∧ CB m O V V1 w wr ∧ Gk (N + k) T ∧ Hid (runS p n now 256 S = runS p n now gh T ∧ runC p n now 256 S = k + runC p n now gh T))
  case atStart => exact ⟨0, S, V, by omega, rfl, h, CB.refl _ _ _ _, by simpa using hG, rfl, by simp⟩
  case round =>
    obtain ⟨k, T, V1, hk, rfl, h1, hC1, hG1, HR⟩ := hrel
    cases gk with
    | zero =>
      have HQ := Lib.hid (rgather_any h1)
      go_wp2_with fail
      with_reducible refine HQ.out.mono ?_
      rintro e w5 ⟨rfl, V5, h5, hc5⟩
      go_wp2
      go_ret
      exact ⟨ret_int (by have e1 := HR.out.2; have e2 : runC p n now 0 T = 0 := rfl; omega), V5, by rw [HR.out.1]; exact h5, hC1.trans hc5⟩
    | succ gh =>
      have hN1 : N + (k : Int) ≤ 60000 := by omega
      have hkI : (k : Int) < 256 := by omega
      have HT := Lib.hid (btake_any now h1 (hG1.l6 hN1))
      have hG2 := hG1.take now
      cases hD : dueB now T.L
      · have HV : Hid (takeV now T.L = .tuple #[.agg #[.int .i64 0, .int .i64 0, .int .i64 0], .bool false]) := by show _ = _; unfold takeV takeE; rw [hD]; rfl
        have HE1 : Hid (runS p n now (gh + 1) T = T ∧ runC p n now (gh + 1) T = 0) := by
          show _ ∧ _
          unfold runS runC
          rw [hD]
          exact ⟨rfl, rfl⟩
        have HL : Hid (takeL now T.L = T.L) := by show _ = _; unfold takeL; rw [hD]; rfl
        clear hD
        go_wp2_with fail
        with_reducible refine HT.out.mono ?_
        rintro e w2 ⟨rfl, V2, h2, hc2⟩
        rw [HV.out]
        rw [HL.out] at h2
        have hB3 : Below w2.heap.size w2 (w2.alloc (.cells #[.int .i64 0, .int .i64 0, .int .i64 0] 84)) := (Below.refl _ _).alloc (Nat.le_refl _) _
        have h3 : Bx (w2.alloc (.cells #[.int .i64 0, .int .i64 0, .int .i64 0] 84)) m r y O p n V2 T := h2.below hB3
        have hC3 := (hC1.trans hc2).trans (CB.of_below hB3)
        have HQ := Lib.hid (rgather_any h3)
        clear h2 hc2 hB3 HT hG2
        go_wp2_with fail
        with_reducible refine HQ.out.mono ?_
        rintro e w5 ⟨rfl, V5, h5, hc5⟩
        go_wp2
        go_ret
        exact ⟨ret_int (by rw [HR.out.2, HE1.out.2]; omega), V5, by rw [HR.out.1, HE1.out.1]; exact h5, hC3.trans hc5⟩
      · obtain ⟨te, de, se, hE⟩ : ∃ te de se, headE T.L = ⟨te, de, se⟩ := ⟨_, _, _, rfl⟩
        have HV : Hid (takeV now T.L = .tuple #[.agg #[.int .i64 te, .int .i64 de, .int .i64 se], .bool true]) := by show _ = _; unfold takeV takeE; rw [hD, if_pos rfl, hE]; rfl
        obtain ⟨t0, t1'⟩ := head_lo hG1.ev hD
        rw [hE] at t0 t1'
        have t0 : 0 ≤ te := t0
        have t1 : te ≤ 4611686018427387000 := by have : te ≤ now := t1'; omega
        have hst : stepF p n now T = fireX p n de te { T with L := takeL now T.L } := by unfold stepF; rw [hE]
        have hG5 : Gk (N + ((k + 1 : Nat) : Int)) (fireX p n de te { T with L := takeL now T.L }) := by
          rw [← hst, show N + ((k + 1 : Nat) : Int) = N + (k : Int) + 1 by omega]
          exact hG1.step hD
        have hR5 : runS p n now 256 S = runS p n now gh (fireX p n de te { T with L := takeL now T.L }) ∧ runC p n now 256 S = (k + 1) + runC p n now gh (fireX p n de te { T with L := takeL now T.L }) := by
          have e1 : runS p n now (gh + 1) T = runS p n now gh (stepF p n now T) := by show (match dueB now T.L with | true => _ | false => _) = _; rw [hD]
          have e2 : runC p n now (gh + 1) T = 1 + runC p n now gh (stepF p n now T) := by show (match dueB now T.L with | true => _ | false => _) = _; rw [hD]
          rw [← hst, HR.out.1, HR.out.2, e1, e2]
          exact ⟨rfl, by omega⟩
        have HG5 := Lib.hid hG5
        have HR5 := Lib.hid hR5
        generalize hT2 : ({ T with L := takeL now T.L } : BS) = T2 at HT hG2 HG5 HR5
        clear hD hE hst hG5 hR5 t1' HR hT2
        go_wp2_with fail
        with_reducible refine HT.out.mono ?_
        rintro e w2 ⟨rfl, V2, h2, hc2⟩
        rw [HV.out]
        have hB3 : Below w2.heap.size w2 (w2.alloc (.cells #[.int .i64 te, .int .i64 de, .int .i64 se] 84)) := (Below.refl _ _).alloc (Nat.le_refl _) _
        have h3 : Bx (w2.alloc (.cells #[.int .i64 te, .int .i64 de, .int .i64 se] 84)) m r y O p n V2 T2 := h2.below hB3
        have hC3 := (hC1.trans hc2).trans (CB.of_below hB3)
        have HB1 := Lib.hid (b1_any te de se h3 hG2 hN1 hn t0 t1)
        clear h2 hc2 hB3 HT HV
        go_wp2_with fail
        with_reducible refine HB1.out.mono ?_
        rintro e w5 ⟨rfl, V5, h5, hc5⟩
        go_wp2
        go_roundg gh
        case measure => omega
        case rel => exact ⟨k + 1, _, V5, by omega, by go_num, h5, hC3.trans hc5, HG5.out, HR5⟩
end
end Go.Proofs.YtkfedihaldpgmaaGreat
