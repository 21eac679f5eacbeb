/-
  Chapter 15: the document's bus: gather, where, Next, Raised, in the one state.
-/
import Derived.Test.YtkfedihaldpgmaaGreatBr15
import Derived.Test.YtkfedihaldpgmaaGreatPi15
namespace Go.Proofs.YtkfedihaldpgmaaGreat
open Go.RowKit
set_option linter.unusedVariables false
set_option linter.unusedSimpArgs false
/-- the lines behind k of the devices, gathered anew -/
def upP (k : Nat) (S : BS) : Int := match k with
  | 0 => 0
  | 1 => upW (lineB 1 S) false false false false
  | 2 => upW (lineB 1 S) (lineB 2 S) false false false
  | 3 => upW (lineB 1 S) (lineB 2 S) (lineB 3 S) false false
  | 4 => upW (lineB 1 S) (lineB 2 S) (lineB 3 S) (lineB 4 S) false
  | _ => linesW S
theorem or_1 : bits .or .u32 0 2 = upW true false false false false := rfl
theorem or_2 (c1 : Bool) : bits .or .u32 (upW c1 false false false false) 4 = upW c1 true false false false := by cases c1 <;> rfl
theorem or_3 (c1 c2 : Bool) : bits .or .u32 (upW c1 c2 false false false) 8 = upW c1 c2 true false false := by cases c1 <;> cases c2 <;> rfl
theorem or_4 (c1 c2 c3 : Bool) : bits .or .u32 (upW c1 c2 c3 false false) 16 = upW c1 c2 c3 true false := by cases c1 <;> cases c2 <;> cases c3 <;> rfl
theorem or_5 (c1 c2 c3 c4 : Bool) : bits .or .u32 (upW c1 c2 c3 c4 false) 32 = upW c1 c2 c3 c4 true := by cases c1 <;> cases c2 <;> cases c3 <;> cases c4 <;> rfl
theorem upP_yes {k : Nat} {S : BS} (hk : k < 5) (h : lineB (k + 1) S = true) : bits .or .u32 (upP k S) (2 ^ (k + 1)) = upP (k + 1) S := by
  have : k = 0 ∨ k = 1 ∨ k = 2 ∨ k = 3 ∨ k = 4 := by omega
  rcases this with rfl | rfl | rfl | rfl | rfl
  · show bits .or .u32 0 2 = upW (lineB 1 S) _ _ _ _; rw [h]; rfl
  · show bits .or .u32 (upW (lineB 1 S) _ _ _ _) 4 = upW (lineB 1 S) (lineB 2 S) _ _ _; rw [h]; exact or_2 _
  · show bits .or .u32 (upW (lineB 1 S) (lineB 2 S) _ _ _) 8 = upW (lineB 1 S) (lineB 2 S) (lineB 3 S) _ _; rw [h]; exact or_3 _ _
  · show bits .or .u32 (upW (lineB 1 S) (lineB 2 S) (lineB 3 S) _ _) 16 = upW (lineB 1 S) (lineB 2 S) (lineB 3 S) (lineB 4 S) _; rw [h]; exact or_4 _ _ _
  · show bits .or .u32 (upW (lineB 1 S) (lineB 2 S) (lineB 3 S) (lineB 4 S) _) 32 = upW (lineB 1 S) (lineB 2 S) (lineB 3 S) (lineB 4 S) (lineB 5 S); rw [h]; exact or_5 _ _ _ _
theorem upP_no {k : Nat} {S : BS} (hk : k < 5) (h : lineB (k + 1) S = false) : upP k S = upP (k + 1) S := by
  have : k = 0 ∨ k = 1 ∨ k = 2 ∨ k = 3 ∨ k = 4 := by omega
  rcases this with rfl | rfl | rfl | rfl | rfl
  · show (0 : Int) = upW (lineB 1 S) _ _ _ _; rw [h]; rfl
  · show _ = upW (lineB 1 S) (lineB 2 S) _ _ _; rw [h]; rfl
  · show _ = upW (lineB 1 S) (lineB 2 S) (lineB 3 S) _ _; rw [h]; rfl
  · show _ = upW (lineB 1 S) (lineB 2 S) (lineB 3 S) (lineB 4 S) _; rw [h]; rfl
  · show _ = upW (lineB 1 S) (lineB 2 S) (lineB 3 S) (lineB 4 S) (lineB 5 S); rw [h]; rfl
section
variable {w w' : World} {m r y : Nat} {O : Nat → Prop} {p n : Nat} {V : SV} {S : BS}
theorem lineB_up (d : Nat) (S : BS) (x : Int) : lineB d { S with up := x } = lineB d S := by
  match d with
  | 0 => rfl
  | 1 => rfl
  | 2 => rfl
  | 3 => rfl
  | 4 => rfl
  | 5 => rfl
  | d + 6 => rfl
set_option maxRecDepth 100000 in
set_option maxHeartbeats 2000000 in
theorem rgather_any (h : Bx w m r y O p n V S) :
    Calls Tryz.prog 29 #[.pointer (some ⟨m, 0, none⟩)] w (RetN (.tuple #[]) w m r y O p n V (gat S)) := by
  have b23 := h.b23
  have f23 := h.wb.st.frozen 23
  go_enter Tryz.func29, Tryz.ntmps29
  go_wp2
  go_loopw [2] (fun i wr => ∃ k : Nat, k ≤ 5 ∧ i = .int .i64 ((k : Int) + 1) ∧ Bx wr m r y O p n V { S with up := upP k S } ∧ CB m O V V w wr) (fun i _ => 6 - (intOf i).toNat)
  case atStart => exact ⟨0, by omega, rfl, h.setUp 0, CB.set m O V w 23 _⟩
  case round =>
    obtain ⟨k, hk, rfl, hw, hC⟩ := hrel
    by_cases hlt : k < 5
    · have c23 := hw.b23
      have g23 := hw.wb.st.frozen 23
      have : k = 0 ∨ k = 1 ∨ k = 2 ∨ k = 3 ∨ k = 4 := by omega
      rcases this with rfl | rfl | rfl | rfl | rfl
      · have HL : Hid (Calls Tryz.prog 65 #[.pointer (some ⟨m, 0, none⟩), .int .i64 1] wr fun e w' => e = .returned (.bool (lineB 1 S)) ∧ wr = w') := Lib.hid (bline_any (S := { S with up := upP 0 S }) 1 hw (by omega))
        cases hb : lineB 1 S
        · rw [hb] at HL
          have HU : Hid (upP 0 S = upP 1 S) := Lib.hid (upP_no (k := 0) (by omega) hb)
          clear hb
          go_wp2_with fail
          with_reducible refine HL.out.mono ?_
          rintro e w2 ⟨rfl, rfl⟩
          go_wp2
          go_roundw
          case measure => simp [intOf]
          case rel => exact ⟨1, by omega, by go_num, by rw [← HU.out]; exact hw, hC⟩
        · rw [hb] at HL
          have hU : bits .or .u32 (upP 0 S) 2 = upP 1 S := upP_yes (k := 0) (by omega) hb
          have h2 : Bx (wr.setCell ⟨m, 23, none⟩ (.int .u32 (bits .or .u32 (upP 0 S) 2))) m r y O p n V { S with up := upP 1 S } := by rw [hU]; exact hw.setUp (upP 1 S)
          have H2 := Lib.hid h2
          have HC2 := Lib.hid (hC.trans (CB.set m O V wr 23 (.int .u32 (bits .or .u32 (upP 0 S) 2))))
          clear hb hU h2
          obtain ⟨uk, huk⟩ : ∃ uk, upP 0 S = uk := ⟨_, rfl⟩
          have c23' : wr.cell? ⟨m, 23, none⟩ = some (.int .u32 uk) := by rw [← huk]; exact c23
          rw [huk] at H2 HC2
          clear c23 huk hw
          go_wp2_with fail
          with_reducible refine HL.out.mono ?_
          rintro e w2 ⟨rfl, rfl⟩
          go_wp2
          go_roundw
          case measure => simp [intOf]
          case rel => exact ⟨1, by omega, by go_num, H2.out, HC2.out⟩
      · have HL : Hid (Calls Tryz.prog 65 #[.pointer (some ⟨m, 0, none⟩), .int .i64 2] wr fun e w' => e = .returned (.bool (lineB 2 S)) ∧ wr = w') := Lib.hid (bline_any (S := { S with up := upP 1 S }) 2 hw (by omega))
        cases hb : lineB 2 S
        · rw [hb] at HL
          have HU : Hid (upP 1 S = upP 2 S) := Lib.hid (upP_no (k := 1) (by omega) hb)
          clear hb
          go_wp2_with fail
          with_reducible refine HL.out.mono ?_
          rintro e w2 ⟨rfl, rfl⟩
          go_wp2
          go_roundw
          case measure => simp [intOf]
          case rel => exact ⟨2, by omega, by go_num, by rw [← HU.out]; exact hw, hC⟩
        · rw [hb] at HL
          have hU : bits .or .u32 (upP 1 S) 4 = upP 2 S := upP_yes (k := 1) (by omega) hb
          have h2 : Bx (wr.setCell ⟨m, 23, none⟩ (.int .u32 (bits .or .u32 (upP 1 S) 4))) m r y O p n V { S with up := upP 2 S } := by rw [hU]; exact hw.setUp (upP 2 S)
          have H2 := Lib.hid h2
          have HC2 := Lib.hid (hC.trans (CB.set m O V wr 23 (.int .u32 (bits .or .u32 (upP 1 S) 4))))
          clear hb hU h2
          obtain ⟨uk, huk⟩ : ∃ uk, upP 1 S = uk := ⟨_, rfl⟩
          have c23' : wr.cell? ⟨m, 23, none⟩ = some (.int .u32 uk) := by rw [← huk]; exact c23
          rw [huk] at H2 HC2
          clear c23 huk hw
          go_wp2_with fail
          with_reducible refine HL.out.mono ?_
          rintro e w2 ⟨rfl, rfl⟩
          go_wp2
          go_roundw
          case measure => simp [intOf]
          case rel => exact ⟨2, by omega, by go_num, H2.out, HC2.out⟩
      · have HL : Hid (Calls Tryz.prog 65 #[.pointer (some ⟨m, 0, none⟩), .int .i64 3] wr fun e w' => e = .returned (.bool (lineB 3 S)) ∧ wr = w') := Lib.hid (bline_any (S := { S with up := upP 2 S }) 3 hw (by omega))
        cases hb : lineB 3 S
        · rw [hb] at HL
          have HU : Hid (upP 2 S = upP 3 S) := Lib.hid (upP_no (k := 2) (by omega) hb)
          clear hb
          go_wp2_with fail
          with_reducible refine HL.out.mono ?_
          rintro e w2 ⟨rfl, rfl⟩
          go_wp2
          go_roundw
          case measure => simp [intOf]
          case rel => exact ⟨3, by omega, by go_num, by rw [← HU.out]; exact hw, hC⟩
        · rw [hb] at HL
          have hU : bits .or .u32 (upP 2 S) 8 = upP 3 S := upP_yes (k := 2) (by omega) hb
          have h2 : Bx (wr.setCell ⟨m, 23, none⟩ (.int .u32 (bits .or .u32 (upP 2 S) 8))) m r y O p n V { S with up := upP 3 S } := by rw [hU]; exact hw.setUp (upP 3 S)
          have H2 := Lib.hid h2
          have HC2 := Lib.hid (hC.trans (CB.set m O V wr 23 (.int .u32 (bits .or .u32 (upP 2 S) 8))))
          clear hb hU h2
          obtain ⟨uk, huk⟩ : ∃ uk, upP 2 S = uk := ⟨_, rfl⟩
          have c23' : wr.cell? ⟨m, 23, none⟩ = some (.int .u32 uk) := by rw [← huk]; exact c23
          rw [huk] at H2 HC2
          clear c23 huk hw
          go_wp2_with fail
          with_reducible refine HL.out.mono ?_
          rintro e w2 ⟨rfl, rfl⟩
          go_wp2
          go_roundw
          case measure => simp [intOf]
          case rel => exact ⟨3, by omega, by go_num, H2.out, HC2.out⟩
      · have HL : Hid (Calls Tryz.prog 65 #[.pointer (some ⟨m, 0, none⟩), .int .i64 4] wr fun e w' => e = .returned (.bool (lineB 4 S)) ∧ wr = w') := Lib.hid (bline_any (S := { S with up := upP 3 S }) 4 hw (by omega))
        cases hb : lineB 4 S
        · rw [hb] at HL
          have HU : Hid (upP 3 S = upP 4 S) := Lib.hid (upP_no (k := 3) (by omega) hb)
          clear hb
          go_wp2_with fail
          with_reducible refine HL.out.mono ?_
          rintro e w2 ⟨rfl, rfl⟩
          go_wp2
          go_roundw
          case measure => simp [intOf]
          case rel => exact ⟨4, by omega, by go_num, by rw [← HU.out]; exact hw, hC⟩
        · rw [hb] at HL
          have hU : bits .or .u32 (upP 3 S) 16 = upP 4 S := upP_yes (k := 3) (by omega) hb
          have h2 : Bx (wr.setCell ⟨m, 23, none⟩ (.int .u32 (bits .or .u32 (upP 3 S) 16))) m r y O p n V { S with up := upP 4 S } := by rw [hU]; exact hw.setUp (upP 4 S)
          have H2 := Lib.hid h2
          have HC2 := Lib.hid (hC.trans (CB.set m O V wr 23 (.int .u32 (bits .or .u32 (upP 3 S) 16))))
          clear hb hU h2
          obtain ⟨uk, huk⟩ : ∃ uk, upP 3 S = uk := ⟨_, rfl⟩
          have c23' : wr.cell? ⟨m, 23, none⟩ = some (.int .u32 uk) := by rw [← huk]; exact c23
          rw [huk] at H2 HC2
          clear c23 huk hw
          go_wp2_with fail
          with_reducible refine HL.out.mono ?_
          rintro e w2 ⟨rfl, rfl⟩
          go_wp2
          go_roundw
          case measure => simp [intOf]
          case rel => exact ⟨4, by omega, by go_num, H2.out, HC2.out⟩
      · have HL : Hid (Calls Tryz.prog 65 #[.pointer (some ⟨m, 0, none⟩), .int .i64 5] wr fun e w' => e = .returned (.bool (lineB 5 S)) ∧ wr = w') := Lib.hid (bline_any (S := { S with up := upP 4 S }) 5 hw (by omega))
        cases hb : lineB 5 S
        · rw [hb] at HL
          have HU : Hid (upP 4 S = upP 5 S) := Lib.hid (upP_no (k := 4) (by omega) hb)
          clear hb
          go_wp2_with fail
          with_reducible refine HL.out.mono ?_
          rintro e w2 ⟨rfl, rfl⟩
          go_wp2
          go_roundw
          case measure => simp [intOf]
          case rel => exact ⟨5, by omega, by go_num, by rw [← HU.out]; exact hw, hC⟩
        · rw [hb] at HL
          have hU : bits .or .u32 (upP 4 S) 32 = upP 5 S := upP_yes (k := 4) (by omega) hb
          have h2 : Bx (wr.setCell ⟨m, 23, none⟩ (.int .u32 (bits .or .u32 (upP 4 S) 32))) m r y O p n V { S with up := upP 5 S } := by rw [hU]; exact hw.setUp (upP 5 S)
          have H2 := Lib.hid h2
          have HC2 := Lib.hid (hC.trans (CB.set m O V wr 23 (.int .u32 (bits .or .u32 (upP 4 S) 32))))
          clear hb hU h2
          obtain ⟨uk, huk⟩ : ∃ uk, upP 4 S = uk := ⟨_, rfl⟩
          have c23' : wr.cell? ⟨m, 23, none⟩ = some (.int .u32 uk) := by rw [← huk]; exact c23
          rw [huk] at H2 HC2
          clear c23 huk hw
          go_wp2_with fail
          with_reducible refine HL.out.mono ?_
          rintro e w2 ⟨rfl, rfl⟩
          go_wp2
          go_roundw
          case measure => simp [intOf]
          case rel => exact ⟨5, by omega, by go_num, H2.out, HC2.out⟩
    · obtain rfl : k = 5 := by omega
      go_wp2
      go_end0
      exact ⟨rfl, V, hw, hC⟩
end
end Go.Proofs.YtkfedihaldpgmaaGreat
