/-
  Chapter 15: the program's bus: Fire.
-/
import Derived.Test.YtkfedihaldpgmaaPi15
namespace Go.Proofs.Ytkfedihaldpgmaa
open Go.RowKit
set_option linter.unusedVariables false
set_option linter.unusedSimpArgs false
/-- the first event is taken and done -/
def stepF (p n : Nat) (now : Int) (S : BS) : BS := fireX p n (headE S.L).d (headE S.L).t { S with L := takeL now S.L }
/-- at most so many events are done: what is left, how many they were -/
def runS (p n : Nat) (now : Int) : Nat → BS → BS
  | 0, S => S
  | k + 1, S => match dueB now S.L with
    | true => runS p n now k (stepF p n now S)
    | false => S
def runC (p n : Nat) (now : Int) : Nat → BS → Nat
  | 0, _ => 0
  | k + 1, S => match dueB now S.L with
    | true => 1 + runC p n now k (stepF p n now S)
    | false => 0
theorem head_lo {now : Int} {L : List Ev} (h : ∀ e ∈ L, 0 ≤ e.t) (hd : dueB now L = true) : 0 ≤ (headE L).t ∧ (headE L).t ≤ now := by
  cases L with
  | nil => cases hd
  | cons e L => exact ⟨h e (by simp), of_decide_eq_true hd⟩
section
variable {w w' : World} {G : PG} {V : PV} {S : BS} {N : Int}
theorem Gk.step {p n : Nat} {now : Int} (h : Gk N S) (hd : dueB now S.L = true) : Gk (N + 1) (stepF p n now S) := (h.take now).fiX _ _ (head_lo h.ev hd).1
theorem ptake_any (now : Int) (h : Px w G V S) (hG : Gk N S) (hN : N ≤ 60000) :
    Calls Try.prog 19 #[.pointer (some ⟨G.g, 0, none⟩), .int .i64 now] w (RetPx (takeV now S.L) w G V { S with L := takeL now S.L }) :=
  (take_any now h.wh (by have := hG.l6 hN; omega)).mono fun e w' ⟨he, v2, hw2, hc⟩ => ⟨he, _, h.outW hw2 hc⟩
set_option maxRecDepth 100000 in
set_option maxHeartbeats 2000000 in
theorem bfire_any (now : Int) (h : Px w G V S) (hG : Gk N S) (hN : N + 256 ≤ 60000) (hn : G.n ≤ 64) (n0 : 0 ≤ now) (n1 : now ≤ 4611686018427387000) :
    Calls Try.prog 6 #[.pointer (some ⟨G.b, 0, none⟩), .int .i64 now] w (RetPx (.int .i64 (runC G.p G.n now 256 S : Int)) w G V (gat (runS G.p G.n now 256 S))) := by
  have HEND : ∀ {wr : World} {V1 : PV} {T : BS} {M : Int}, Px wr G V1 T → Gk M T → Hid (Calls Try.prog 18 #[.pointer (some ⟨G.b, 0, none⟩)] wr (RetPx (.tuple #[]) wr G V1 (gat T))) := fun h1 h2 => Lib.hid (pgather_any h1 h2)
  go_enter Try.func6, Try.ntmps6
  go_wp2
  go_step3
  go_wp2
  go_step3
  go_wp2
  go_loopg [5] 256 (fun gh i wr => ∃ (k : Nat) (T : BS) (V1 : PV), k + gh = 256 ∧ i = .int .i64 k ∧ Px wr G V1 T ∧ CP G V V1 w wr ∧ Gk (N + k) T ∧ Hid (runS G.p G.n now 256 S = runS G.p G.n now gh T ∧ runC G.p G.n now 256 S = k + runC G.p G.n now gh T))
  case atStart => exact ⟨0, S, V, by omega, rfl, h, CP.refl _ _ _, by simpa using hG, rfl, by simp⟩
  case round =>
    obtain ⟨k, T, V1, hk, rfl, h1, hC1, hG1, HR⟩ := hrel
    have c1 : wr.cell? ⟨G.b, 1, none⟩ = some (.pointer (some ⟨G.g, 0, none⟩)) := h1.bb.cell (i := 1) (by omega)
    cases gk with
    | zero =>
      have HQ := HEND h1 hG1
      go_wp2_with fail
      with_reducible refine HQ.out.mono ?_
      rintro e w5 ⟨rfl, V5, h5, hc5⟩
      go_wp2
      go_ret
      exact ⟨ret_int (by have e1 := HR.out.2; have e2 : runC G.p G.n now 0 T = 0 := rfl; omega), V5, by rw [HR.out.1]; exact h5, hC1.trans hc5⟩
    | succ gh =>
      have hN1 : N + (k : Int) ≤ 60000 := by omega
      have hkI : (k : Int) < 256 := by omega
      have HT := Lib.hid (ptake_any now h1 hG1 hN1)
      have hG2 := hG1.take now
      cases hD : dueB now T.L
      · have HV : Hid (takeV now T.L = .tuple #[.agg #[.int .i64 0, .int .i64 0, .int .i64 0], .bool false]) := by show _ = _; unfold takeV takeE; rw [hD]; rfl
        have HE1 : Hid (runS G.p G.n now (gh + 1) T = T ∧ runC G.p G.n now (gh + 1) T = 0) := by
          show _ ∧ _
          unfold runS runC
          rw [hD]
          exact ⟨rfl, rfl⟩
        have HL : Hid (takeL now T.L = T.L) := by show _ = _; unfold takeL; rw [hD]; rfl
        clear hD
        go_wp2_with fail
        with_reducible refine HT.out.mono ?_
        rintro e w2 ⟨rfl, V2, h2, hc2⟩
        rw [HV.out]
        rw [HL.out] at h2
        have hB3 : Below w2.heap.size w2 (w2.alloc (.cells #[.int .i64 0, .int .i64 0, .int .i64 0] 50)) := (Below.refl _ _).alloc (Nat.le_refl _) _
        have h3 : Px (w2.alloc (.cells #[.int .i64 0, .int .i64 0, .int .i64 0] 50)) G V2 T := h2.below hB3
        have hC3 := (hC1.trans hc2).trans (CP.of_below hB3)
        have HQ := HEND h3 hG1
        clear h2 hc2 hB3 HT hG2
        go_wp2_with fail
        with_reducible refine HQ.out.mono ?_
        rintro e w5 ⟨rfl, V5, h5, hc5⟩
        go_wp2
        go_ret
        exact ⟨ret_int (by rw [HR.out.2, HE1.out.2]; omega), V5, by rw [HR.out.1, HE1.out.1]; exact h5, hC3.trans hc5⟩
      · obtain ⟨te, de, se, hE⟩ : ∃ te de se, headE T.L = ⟨te, de, se⟩ := ⟨_, _, _, rfl⟩
        have HV : Hid (takeV now T.L = .tuple #[.agg #[.int .i64 te, .int .i64 de, .int .i64 se], .bool true]) := by show _ = _; unfold takeV takeE; rw [hD, if_pos rfl, hE]; rfl
        obtain ⟨t0, t1'⟩ := head_lo hG1.ev hD
        rw [hE] at t0 t1'
        have t0 : 0 ≤ te := t0
        have t1 : te ≤ 4611686018427387000 := by have : te ≤ now := t1'; omega
        have hst : stepF G.p G.n now T = fireX G.p G.n de te { T with L := takeL now T.L } := by unfold stepF; rw [hE]
        have hG5 : Gk (N + ((k + 1 : Nat) : Int)) (fireX G.p G.n de te { T with L := takeL now T.L }) := by
          rw [← hst, show N + ((k + 1 : Nat) : Int) = N + (k : Int) + 1 by omega]
          exact hG1.step hD
        have hR5 : runS G.p G.n now 256 S = runS G.p G.n now gh (fireX G.p G.n de te { T with L := takeL now T.L }) ∧ runC G.p G.n now 256 S = (k + 1) + runC G.p G.n now gh (fireX G.p G.n de te { T with L := takeL now T.L }) := by
          have e1 : runS G.p G.n now (gh + 1) T = runS G.p G.n now gh (stepF G.p G.n now T) := by show (match dueB now T.L with | true => _ | false => _) = _; rw [hD]
          have e2 : runC G.p G.n now (gh + 1) T = 1 + runC G.p G.n now gh (stepF G.p G.n now T) := by show (match dueB now T.L with | true => _ | false => _) = _; rw [hD]
          rw [← hst, HR.out.1, HR.out.2, e1, e2]
          exact ⟨rfl, by omega⟩
        have HG5 := Lib.hid hG5
        have HR5 := Lib.hid hR5
        generalize hT2 : ({ T with L := takeL now T.L } : BS) = T2 at HT hG2 HG5 HR5
        clear hD hE hst hG5 hR5 t1' HR hT2 HEND
        go_wp2_with fail
        with_reducible refine HT.out.mono ?_
        rintro e w2 ⟨rfl, V2, h2, hc2⟩
        rw [HV.out]
        have hB3 : Below w2.heap.size w2 (w2.alloc (.cells #[.int .i64 te, .int .i64 de, .int .i64 se] 50)) := (Below.refl _ _).alloc (Nat.le_refl _) _
        have h3 : Px (w2.alloc (.cells #[.int .i64 te, .int .i64 de, .int .i64 se] 50)) G V2 T2 := h2.below hB3
        have hE3 := ev_row w2 ⟨te, de, se⟩
        have hC3 := (hC1.trans hc2).trans (CP.of_below hB3)
        have c5 : (w2.alloc (.cells #[.int .i64 te, .int .i64 de, .int .i64 se] 50)).cell? ⟨G.b, 5, none⟩ = some (.slice (some ⟨G.P, 0, none⟩) 5 5) := h3.bb.cell (i := 5) (by omega)
        clear h2 hc2 hB3 HT HV
        go_wp2
        go_loopg [30] 5 (fun ig i wr => ∃ j : Nat, j + ig = 5 ∧ i = .int .i64 j ∧ Px wr G V2 T2 ∧ CP G V V2 w wr ∧ wr.rowIs w2.heap.size 50 3 (three ⟨te, de, se⟩) ∧ Hid (∀ i : Nat, i < j → de ≠ (i : Int) + 1))
        case atStart => exact ⟨0, by omega, rfl, h3, hC3, hE3, fun i hi => by omega⟩
        case round =>
          obtain ⟨j, hj, rfl, h4, hC4, hE4, HJ⟩ := hrel
          have hN2 : N + (k : Int) ≤ 60000 := hN1
          cases gk with
          | zero =>
            obtain rfl : j = 5 := by omega
            have HX : Hid (fireX G.p G.n de te T2 = T2) := by
              show _ = _
              have e0 := HJ.out 0 (by omega)
              have e1 := HJ.out 1 (by omega)
              have e2 := HJ.out 2 (by omega)
              have e3 := HJ.out 3 (by omega)
              have e4 := HJ.out 4 (by omega)
              unfold fireX
              rw [if_neg (by omega), if_neg (by omega), if_neg (by omega), if_neg (by omega), if_neg (by omega)]
            rw [HX.out] at HG5 HR5
            go_wp2
            go_roundg gh
            case measure => omega
            case rel => exact ⟨k + 1, T2, V2, by omega, by go_num, h4, hC4, HG5.out, HR5⟩
          | succ ig =>
            have q0 : wr.cell? ⟨G.P, 2 * j, none⟩ = some (pt10 G (2 * j)) := h4.pp.cell (i := 2 * j) (by omega)
            have q1 : wr.cell? ⟨G.P, 2 * j + 1, none⟩ = some (pt10 G (2 * j + 1)) := h4.pp.cell (i := 2 * j + 1) (by omega)
            have bo0 := hE4.cell (i := 0) (by omega)
            have bo1 := hE4.cell (i := 1) (by omega)
            simp only [three] at bo0 bo1
            have hXl : w2.heap.size < wr.heap.size := hE4.lt
            have : j = 0 ∨ j = 1 ∨ j = 2 ∨ j = 3 ∨ j = 4 := by omega
            rcases this with rfl | rfl | rfl | rfl | rfl
            all_goals
              simp only [pt10, Nat.mul_zero, Nat.zero_add, Nat.reduceMul, Nat.reduceAdd] at q0 q1
            · by_cases hz : de = 1
              · subst hz
                have h3 : Px (wr.alloc (Obj.cells #[Value.int IntKind.i64 1, Value.iface 69 (Value.pointer (some { block := G.t0, off := 0 }))] 56)) G V2 T2 := h4.alloc _
                have hC3 : CP G V2 V2 wr (wr.alloc (Obj.cells #[Value.int IntKind.i64 1, Value.iface 69 (Value.pointer (some { block := G.t0, off := 0 }))] 56)) := CP.of_below ((Below.refl _ _).alloc (Nat.le_refl _) _)
                have HF := Lib.hid (pfire1 hG2 hN2 te h3 t0 t1)
                clear h3
                go_wp2_with fail
                with_reducible refine HF.out.mono ?_
                rintro e w5 ⟨rfl, V5, h5, hc5⟩
                go_wp2
                go_roundg gh
                case measure => omega
                case rel => exact ⟨k + 1, fireX G.p G.n 1 te T2, V5, by omega, by go_num, h5, hC4.trans (hC3.trans hc5), HG5.out, HR5⟩
              · have hb : ((1 : Int) == de) = false := beq_false_of_ne (fun e => hz e.symm)
                have HZ := Lib.hid hz
                clear hz
                go_wp2
                go_roundg ig
                case measure => omega
                case rel =>
                  refine ⟨1, by omega, by go_num, h4.alloc _, hC4.trans (CP.of_below ((Below.refl _ _).alloc (Nat.le_refl _) _)), hE4.alloc _, fun i hi => ?_⟩
                  by_cases e : i = 0
                  · rw [e]; exact HZ.out
                  · exact HJ.out i (by omega)
            · by_cases hz : de = 2
              · subst hz
                have h3 : Px (wr.alloc (Obj.cells #[Value.int IntKind.i64 2, Value.iface 69 (Value.pointer (some { block := G.t1, off := 0 }))] 56)) G V2 T2 := h4.alloc _
                have hC3 : CP G V2 V2 wr (wr.alloc (Obj.cells #[Value.int IntKind.i64 2, Value.iface 69 (Value.pointer (some { block := G.t1, off := 0 }))] 56)) := CP.of_below ((Below.refl _ _).alloc (Nat.le_refl _) _)
                have HF := Lib.hid (pfire2 hG2 hN2 te h3 t0 t1)
                clear h3
                go_wp2_with fail
                with_reducible refine HF.out.mono ?_
                rintro e w5 ⟨rfl, V5, h5, hc5⟩
                go_wp2
                go_roundg gh
                case measure => omega
                case rel => exact ⟨k + 1, fireX G.p G.n 2 te T2, V5, by omega, by go_num, h5, hC4.trans (hC3.trans hc5), HG5.out, HR5⟩
              · have hb : ((2 : Int) == de) = false := beq_false_of_ne (fun e => hz e.symm)
                have HZ := Lib.hid hz
                clear hz
                go_wp2
                go_roundg ig
                case measure => omega
                case rel =>
                  refine ⟨2, by omega, by go_num, h4.alloc _, hC4.trans (CP.of_below ((Below.refl _ _).alloc (Nat.le_refl _) _)), hE4.alloc _, fun i hi => ?_⟩
                  by_cases e : i = 1
                  · rw [e]; exact HZ.out
                  · exact HJ.out i (by omega)
            · by_cases hz : de = 3
              · subst hz
                have h3 : Px (wr.alloc (Obj.cells #[Value.int IntKind.i64 3, Value.iface 41 (Value.pointer (some { block := G.u, off := 0 }))] 56)) G V2 T2 := h4.alloc _
                have hC3 : CP G V2 V2 wr (wr.alloc (Obj.cells #[Value.int IntKind.i64 3, Value.iface 41 (Value.pointer (some { block := G.u, off := 0 }))] 56)) := CP.of_below ((Below.refl _ _).alloc (Nat.le_refl _) _)
                have HF := Lib.hid (pfire3 hG2 hN2 te h3 t0 t1)
                clear h3
                go_wp2_with fail
                with_reducible refine HF.out.mono ?_
                rintro e w5 ⟨rfl, V5, h5, hc5⟩
                go_wp2
                go_roundg gh
                case measure => omega
                case rel => exact ⟨k + 1, fireX G.p G.n 3 te T2, V5, by omega, by go_num, h5, hC4.trans (hC3.trans hc5), HG5.out, HR5⟩
              · have hb : ((3 : Int) == de) = false := beq_false_of_ne (fun e => hz e.symm)
                have HZ := Lib.hid hz
                clear hz
                go_wp2
                go_roundg ig
                case measure => omega
                case rel =>
                  refine ⟨3, by omega, by go_num, h4.alloc _, hC4.trans (CP.of_below ((Below.refl _ _).alloc (Nat.le_refl _) _)), hE4.alloc _, fun i hi => ?_⟩
                  by_cases e : i = 2
                  · rw [e]; exact HZ.out
                  · exact HJ.out i (by omega)
            · by_cases hz : de = 4
              · subst hz
                have h3 : Px (wr.alloc (Obj.cells #[Value.int IntKind.i64 4, Value.iface 71 (Value.pointer (some { block := G.d, off := 0 }))] 56)) G V2 T2 := h4.alloc _
                have hC3 : CP G V2 V2 wr (wr.alloc (Obj.cells #[Value.int IntKind.i64 4, Value.iface 71 (Value.pointer (some { block := G.d, off := 0 }))] 56)) := CP.of_below ((Below.refl _ _).alloc (Nat.le_refl _) _)
                have HF := Lib.hid (pfire4 hG2 hN2 te h3 t0 t1)
                clear h3
                go_wp2_with fail
                with_reducible refine HF.out.mono ?_
                rintro e w5 ⟨rfl, V5, h5, hc5⟩
                go_wp2
                go_roundg gh
                case measure => omega
                case rel => exact ⟨k + 1, fireX G.p G.n 4 te T2, V5, by omega, by go_num, h5, hC4.trans (hC3.trans hc5), HG5.out, HR5⟩
              · have hb : ((4 : Int) == de) = false := beq_false_of_ne (fun e => hz e.symm)
                have HZ := Lib.hid hz
                clear hz
                go_wp2
                go_roundg ig
                case measure => omega
                case rel =>
                  refine ⟨4, by omega, by go_num, h4.alloc _, hC4.trans (CP.of_below ((Below.refl _ _).alloc (Nat.le_refl _) _)), hE4.alloc _, fun i hi => ?_⟩
                  by_cases e : i = 3
                  · rw [e]; exact HZ.out
                  · exact HJ.out i (by omega)
            · by_cases hz : de = 5
              · subst hz
                have h3 : Px (wr.alloc (Obj.cells #[Value.int IntKind.i64 5, Value.iface 42 (Value.pointer (some { block := G.k, off := 0 }))] 56)) G V2 T2 := h4.alloc _
                have hC3 : CP G V2 V2 wr (wr.alloc (Obj.cells #[Value.int IntKind.i64 5, Value.iface 42 (Value.pointer (some { block := G.k, off := 0 }))] 56)) := CP.of_below ((Below.refl _ _).alloc (Nat.le_refl _) _)
                have HF := Lib.hid (pfire5 hG2 hN2 te h3 hn t0 t1)
                clear h3
                go_wp2_with fail
                with_reducible refine HF.out.mono ?_
                rintro e w5 ⟨rfl, V5, h5, hc5⟩
                go_wp2
                go_roundg gh
                case measure => omega
                case rel => exact ⟨k + 1, fireX G.p G.n 5 te T2, V5, by omega, by go_num, h5, hC4.trans (hC3.trans hc5), HG5.out, HR5⟩
              · have hb : ((5 : Int) == de) = false := beq_false_of_ne (fun e => hz e.symm)
                have HZ := Lib.hid hz
                clear hz
                go_wp2
                go_roundg ig
                case measure => omega
                case rel =>
                  refine ⟨5, by omega, by go_num, h4.alloc _, hC4.trans (CP.of_below ((Below.refl _ _).alloc (Nat.le_refl _) _)), hE4.alloc _, fun i hi => ?_⟩
                  by_cases e : i = 4
                  · rw [e]; exact HZ.out
                  · exact HJ.out i (by omega)

end
end Go.Proofs.Ytkfedihaldpgmaa
