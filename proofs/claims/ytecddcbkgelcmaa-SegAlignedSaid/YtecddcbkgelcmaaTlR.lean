/-
  Chapter 7: the document's own functions (Find, Look, Get, Put, Probe), on any State: the same words as package tlb's.
-/
import Derived.Test.YtecddcbkgelcmaaTlG
import Derived.Test.YtecddcbkgelcmaaR6
import Derived.BigQuiet
import Derived.Deep.DeepCutAuto
import Derived.Deep.CutBlock
namespace Go.Proofs.Ytecddcbkgelcmaa
open Go.RowKit
set_option linter.unusedVariables false
section
variable {w : World} {g : Nat} {s : St}
set_option maxHeartbeats 1000000 in
theorem rfind_any (va : Int) (h : StAt w g s) :
    Calls Try.prog 29 #[.pointer (some ⟨g, 0, none⟩), .int .u32 va] w (RetB (.int .i64 (findF s va)) w) := by
  have HS := Lib.hid h
  clear h
  go_enter Try.func29, Try.ntmps29
  go_wp2_with fail
  go_loopw [5] (fun i wr => ∃ k : Nat, k ≤ 8 ∧ i = .int .i64 k ∧ Hid (∀ j, j < k → hitB s va j = false) ∧ Below w.heap.size w wr) (fun i _ => 8 - (intOf i).toNat)
  case atStart => exact ⟨0, by omega, by go_num, Lib.hid (fun j hj => absurd hj (by omega)), Below.refl _ _⟩
  case round =>
    obtain ⟨k, hk, rfl, HN, hb⟩ := hrel
    by_cases hlt : k < 8
    · have hlt' : (k : Int) < 8 := by omega
      have h1 := HS.out.below hb
      have cH := h1.cH k hlt
      have cL := h1.cL k hlt
      go_upto_region 5 with fail
      have hb2 : Below w.heap.size w (wr.alloc (.cells #[.int .u32 (s.H k), .int .u32 (s.L k)] 27)) := hb.alloc hb.size _
      have h2 := h1.alloc (.cells #[.int .u32 (s.H k), .int .u32 (s.L k)] 27)
      have hq := heap_alloc_last wr (.cells #[.int .u32 (s.H k), .int .u32 (s.L k)] 27)
      have q0 : (wr.alloc (.cells #[.int .u32 (s.H k), .int .u32 (s.L k)] 27)).cell? ⟨wr.heap.size, 0, none⟩ = some (.int .u32 (s.H k)) := cell_of_row _ _ 0 _ _ _ hq
      have q1 : (wr.alloc (.cells #[.int .u32 (s.H k), .int .u32 (s.L k)] 27)).cell? ⟨wr.heap.size, 1, none⟩ = some (.int .u32 (s.L k)) := cell_of_row _ _ 1 _ _ _ hq
      have c10 := h2.c10
      clear hq cH cL
      generalize (wr.alloc (.cells #[.int .u32 (s.H k), .int .u32 (s.L k)] 27)) = W1 at hb2 h2 q0 q1 c10 ⊢
      clear h1 h2
      cases hp : (bits .andNot .u32 (s.H k) 1023 == bits .andNot .u32 va 1023)
      · go_quiet (fail)
        have HP := Lib.hid (show pgB s va k = false from hp)
        clear hp
        go_wp2_with fail
        go_roundw
        case rel => exact ⟨k + 1, by omega, by go_num, Lib.hid (fun j hj => by
          by_cases e : j = k
          · subst e; unfold hitB; rw [HP.out]; rfl
          · exact HN.out j (by omega)), below_drewN hb2 _⟩
        case measure => simp [intOf]; omega
      · cases hg : (bits .and .u32 (s.L k) 4 != 0)
        · cases hs : (bits .and .u32 (s.H k) 255 == bits .and .u32 (s.C 10) 255)
          · go_quiet (fail)
            have HG := Lib.hid (show glB s k = false from hg)
            have HZ := Lib.hid (show spB s k = false from hs)
            clear hp hg hs
            go_wp2_with fail
            go_roundw
            case rel => exact ⟨k + 1, by omega, by go_num, Lib.hid (fun j hj => by
              by_cases e : j = k
              · subst e; unfold hitB; rw [HG.out, HZ.out]; simp
              · exact HN.out j (by omega)), below_drewN hb2 _⟩
            case measure => simp [intOf]; omega
          · go_quiet (fail)
            have HP := Lib.hid (show pgB s va k = true from hp)
            have HZ := Lib.hid (show spB s k = true from hs)
            clear hp hg hs
            go_wp2_with fail
            go_ret
            exact ⟨ret_int (find_hit hlt (by unfold hitB; rw [HP.out, HZ.out]; simp) HN.out).symm, below_drewN hb2 _⟩
        · go_quiet (fail)
          have HP := Lib.hid (show pgB s va k = true from hp)
          have HG := Lib.hid (show glB s k = true from hg)
          clear hp hg
          go_wp2_with fail
          go_ret
          exact ⟨ret_int (find_hit hlt (by unfold hitB; rw [HP.out, HG.out]; simp) HN.out).symm, below_drewN hb2 _⟩
    · have e8 : decide ((k : Int) < 8) = false := by simp; omega
      go_wp2_with fail
      go_ret
      exact ⟨ret_int (find_none fun i hi => HN.out i (by omega)).symm, hb⟩
set_option maxHeartbeats 1000000 in
theorem rlook_any (va : Int) (st : Bool) (h : StAt w g s) :
    Calls Try.prog 25 #[.pointer (some ⟨g, 0, none⟩), .int .u32 va, .bool st] w (RetB (lookV s va st) w) := by
  unfold lookV
  rcases find_cases s va with hf | ⟨k, hk, hf⟩
  · have HF := Lib.hid hf
    have HL := Lib.hid (look_none (st := st) hf)
    clear hf
    cases st
    all_goals
      go_enter Try.func25, Try.ntmps25
      go_wp2_with fail
      refine (rfind_any va h).mono ?_
      rintro e w1 ⟨rfl, b1⟩
      rw [HF.out]
      go_wp2_with fail
      refine bodyPost_ret (by simp [results, go_sem]; rfl) rfl ⟨?_, b1⟩
      exact ret_three HL.out.symm
  · have HF := Lib.hid hf
    clear hf
    have hk' : (k : Int) < 8 := by omega
    by_cases hV : bits .and .u32 (s.L k) 1 = 0
    · have hV' : (bits .and .u32 (s.L k) 1 == 0) = true := by simp [hV]
      have HL := Lib.hid (look_inv (st := st) HF.out hV)
      clear hV
      cases st
      all_goals
        go_enter Try.func25, Try.ntmps25
        go_wp2_with fail
        refine (rfind_any va h).mono ?_
        rintro e w1 ⟨rfl, b1⟩
        rw [HF.out]
        have c1 := (h.below b1).cL k hk
        go_wp2_with fail
        refine bodyPost_ret (by simp [results, go_sem]; rfl) rfl ⟨?_, b1⟩
        exact ret_three HL.out.symm
    · have hV' : (bits .and .u32 (s.L k) 1 == 0) = false := by simp [hV]
      have HW := Lib.hid hV
      clear hV
      by_cases hD : st = true ∧ bits .and .u32 (s.L k) 2 = 0
      · obtain ⟨rfl, hD⟩ := hD
        have hD' : (bits .and .u32 (s.L k) 2 == 0) = true := by simp [hD]
        have HE := Lib.hid hD
        clear hD
        go_enter Try.func25, Try.ntmps25
        go_wp2_with fail
        refine (rfind_any va h).mono ?_
        rintro e w1 ⟨rfl, b1⟩
        rw [HF.out]
        have c1 := (h.below b1).cL k hk
        go_wp2_with fail
        refine bodyPost_ret (by simp [results, go_sem]; rfl) rfl ⟨?_, b1⟩
        exact ret_three (look_mod HF.out HW.out HE.out).symm
      · cases st
        · clear hD
          go_enter Try.func25, Try.ntmps25
          go_wp2_with fail
          refine (rfind_any va h).mono ?_
          rintro e w1 ⟨rfl, b1⟩
          rw [HF.out]
          have c1 := (h.below b1).cL k hk
          go_wp2_with fail
          refine bodyPost_ret (by simp [results, go_sem]; rfl) rfl ⟨?_, b1⟩
          exact ret_three (look_at HF.out HW.out (by simp)).symm
        · have hD' : (bits .and .u32 (s.L k) 2 == 0) = false := by simp at hD; simp [hD]
          have HE := Lib.hid hD
          clear hD
          go_enter Try.func25, Try.ntmps25
          go_wp2_with fail
          refine (rfind_any va h).mono ?_
          rintro e w1 ⟨rfl, b1⟩
          rw [HF.out]
          have c1 := (h.below b1).cL k hk
          go_wp2_with fail
          refine bodyPost_ret (by simp [results, go_sem]; rfl) rfl ⟨?_, b1⟩
          exact ret_three (look_at HF.out HW.out (by have := HE.out; simpa using this)).symm
end
end Go.Proofs.Ytecddcbkgelcmaa
