/-
  Chapter 7: the document's own functions (Find, Look, Get, Put, Probe), on any State: the same words as package tlb's.
-/
import Derived.Test.YtckgkelggmhldaaTlG
import Derived.Test.YtckgkelggmhldaaR6
import Derived.BigQuiet
import Derived.Deep.DeepCutAuto
import Derived.Deep.CutBlock
namespace Go.Proofs.Ytckgkelggmhldaa
open Go.RowKit
set_option linter.unusedVariables false
section
variable {w : World} {g : Nat} {s : St}
set_option maxHeartbeats 1000000 in
theorem rfind_any (va : Int) (h : StAt w g s) :
    Calls Try.prog 25 #[.pointer (some ⟨g, 0, none⟩), .int .u32 va] w (RetB (.int .i64 (findF s va)) w) := by
  have HS := Lib.hid h
  clear h
  go_enter Try.func25, Try.ntmps25
  go_wp2_with fail
  go_loopw [5] (fun i wr => ∃ k : Nat, k ≤ 8 ∧ i = .int .i64 k ∧ Hid (∀ j, j < k → hitB s va j = false) ∧ Below w.heap.size w wr) (fun i _ => 8 - (intOf i).toNat)
  case atStart => exact ⟨0, by omega, by go_num, Lib.hid (fun j hj => absurd hj (by omega)), Below.refl _ _⟩
  case round =>
    obtain ⟨k, hk, rfl, HN, hb⟩ := hrel
    by_cases hlt : k < 8
    · have hlt' : (k : Int) < 8 := by omega
      have h1 := HS.out.below hb
      have cH := h1.cH k hlt
      have cL := h1.cL k hlt
      go_upto_region 5 with fail
      have hb2 : Below w.heap.size w (wr.alloc (.cells #[.int .u32 (s.H k), .int .u32 (s.L k)] 26)) := hb.alloc hb.size _
      have h2 := h1.alloc (.cells #[.int .u32 (s.H k), .int .u32 (s.L k)] 26)
      have hq := heap_alloc_last wr (.cells #[.int .u32 (s.H k), .int .u32 (s.L k)] 26)
      have q0 : (wr.alloc (.cells #[.int .u32 (s.H k), .int .u32 (s.L k)] 26)).cell? ⟨wr.heap.size, 0, none⟩ = some (.int .u32 (s.H k)) := cell_of_row _ _ 0 _ _ _ hq
      have q1 : (wr.alloc (.cells #[.int .u32 (s.H k), .int .u32 (s.L k)] 26)).cell? ⟨wr.heap.size, 1, none⟩ = some (.int .u32 (s.L k)) := cell_of_row _ _ 1 _ _ _ hq
      have c10 := h2.c10
      clear hq cH cL
      generalize (wr.alloc (.cells #[.int .u32 (s.H k), .int .u32 (s.L k)] 26)) = W1 at hb2 h2 q0 q1 c10 ⊢
      clear h1 h2
      cases hp : (bits .andNot .u32 (s.H k) 1023 == bits .andNot .u32 va 1023)
      · go_quiet (fail)
        have HP := Lib.hid (show pgB s va k = false from hp)
        clear hp
        go_wp2_with fail
        go_roundw
        case rel => exact ⟨k + 1, by omega, by go_num, Lib.hid (fun j hj => by
          by_cases e : j = k
          · subst e; unfold hitB; rw [HP.out]; rfl
          · exact HN.out j (by omega)), below_drewN hb2 _⟩
        case measure => simp [intOf]; omega
      · cases hg : (bits .and .u32 (s.L k) 4 != 0)
        · cases hs : (bits .and .u32 (s.H k) 255 == bits .and .u32 (s.C 10) 255)
          · go_quiet (fail)
            have HG := Lib.hid (show glB s k = false from hg)
            have HZ := Lib.hid (show spB s k = false from hs)
            clear hp hg hs
            go_wp2_with fail
            go_roundw
            case rel => exact ⟨k + 1, by omega, by go_num, Lib.hid (fun j hj => by
              by_cases e : j = k
              · subst e; unfold hitB; rw [HG.out, HZ.out]; simp
              · exact HN.out j (by omega)), below_drewN hb2 _⟩
            case measure => simp [intOf]; omega
          · go_quiet (fail)
            have HP := Lib.hid (show pgB s va k = true from hp)
            have HZ := Lib.hid (show spB s k = true from hs)
            clear hp hg hs
            go_wp2_with fail
            go_ret
            exact ⟨ret_int (find_hit hlt (by unfold hitB; rw [HP.out, HZ.out]; simp) HN.out).symm, below_drewN hb2 _⟩
        · go_quiet (fail)
          have HP := Lib.hid (show pgB s va k = true from hp)
          have HG := Lib.hid (show glB s k = true from hg)
          clear hp hg
          go_wp2_with fail
          go_ret
          exact ⟨ret_int (find_hit hlt (by unfold hitB; rw [HP.out, HG.out]; simp) HN.out).symm, below_drewN hb2 _⟩
    · have e8 : decide ((k : Int) < 8) = false := by simp; omega
      go_wp2_with fail
      go_ret
      exact ⟨ret_int (find_none fun i hi => HN.out i (by omega)).symm, hb⟩
set_option maxHeartbeats 1000000 in
theorem rlook_any (va : Int) (st : Bool) (h : StAt w g s) :
    Calls Try.prog 24 #[.pointer (some ⟨g, 0, none⟩), .int .u32 va, .bool st] w (RetB (lookV s va st) w) := by
  unfold lookV
  rcases find_cases s va with hf | ⟨k, hk, hf⟩
  · have HF := Lib.hid hf
    have HL := Lib.hid (look_none (st := st) hf)
    clear hf
    cases st
    all_goals
      go_enter Try.func24, Try.ntmps24
      go_wp2_with fail
      refine (rfind_any va h).mono ?_
      rintro e w1 ⟨rfl, b1⟩
      rw [HF.out]
      go_wp2_with fail
      refine bodyPost_ret (by simp [results, go_sem]; rfl) rfl ⟨?_, b1⟩
      exact ret_three HL.out.symm
  · have HF := Lib.hid hf
    clear hf
    have hk' : (k : Int) < 8 := by omega
    by_cases hV : bits .and .u32 (s.L k) 1 = 0
    · have hV' : (bits .and .u32 (s.L k) 1 == 0) = true := by simp [hV]
      have HL := Lib.hid (look_inv (st := st) HF.out hV)
      clear hV
      cases st
      all_goals
        go_enter Try.func24, Try.ntmps24
        go_wp2_with fail
        refine (rfind_any va h).mono ?_
        rintro e w1 ⟨rfl, b1⟩
        rw [HF.out]
        have c1 := (h.below b1).cL k hk
        go_wp2_with fail
        refine bodyPost_ret (by simp [results, go_sem]; rfl) rfl ⟨?_, b1⟩
        exact ret_three HL.out.symm
    · have hV' : (bits .and .u32 (s.L k) 1 == 0) = false := by simp [hV]
      have HW := Lib.hid hV
      clear hV
      by_cases hD : st = true ∧ bits .and .u32 (s.L k) 2 = 0
      · obtain ⟨rfl, hD⟩ := hD
        have hD' : (bits .and .u32 (s.L k) 2 == 0) = true := by simp [hD]
        have HE := Lib.hid hD
        clear hD
        go_enter Try.func24, Try.ntmps24
        go_wp2_with fail
        refine (rfind_any va h).mono ?_
        rintro e w1 ⟨rfl, b1⟩
        rw [HF.out]
        have c1 := (h.below b1).cL k hk
        go_wp2_with fail
        refine bodyPost_ret (by simp [results, go_sem]; rfl) rfl ⟨?_, b1⟩
        exact ret_three (look_mod HF.out HW.out HE.out).symm
      · cases st
        · clear hD
          go_enter Try.func24, Try.ntmps24
          go_wp2_with fail
          refine (rfind_any va h).mono ?_
          rintro e w1 ⟨rfl, b1⟩
          rw [HF.out]
          have c1 := (h.below b1).cL k hk
          go_wp2_with fail
          refine bodyPost_ret (by simp [results, go_sem]; rfl) rfl ⟨?_, b1⟩
          exact ret_three (look_at HF.out HW.out (by simp)).symm
        · have hD' : (bits .and .u32 (s.L k) 2 == 0) = false := by simp at hD; simp [hD]
          have HE := Lib.hid hD
          clear hD
          go_enter Try.func24, Try.ntmps24
          go_wp2_with fail
          refine (rfind_any va h).mono ?_
          rintro e w1 ⟨rfl, b1⟩
          rw [HF.out]
          have c1 := (h.below b1).cL k hk
          go_wp2_with fail
          refine bodyPost_ret (by simp [results, go_sem]; rfl) rfl ⟨?_, b1⟩
          exact ret_three (look_at HF.out HW.out (by have := HE.out; simpa using this)).symm
set_option maxHeartbeats 1000000 in
theorem rget_any (h : StAt w g s) :
    Calls Try.prog 20 #[.pointer (some ⟨g, 0, none⟩)] w (RetT (.tuple #[]) w g (getF s)) := by
  obtain ⟨k, hk, ek⟩ : ∃ k : Nat, k < 8 ∧ s.C 0 % 8 = k := ⟨(s.C 0 % 8).toNat, by omega, by omega⟩
  have e7 : bits .and .u32 (s.C 0) 7 = k := (and7 _ (h.ok.c 0)).trans ek
  have EK := Lib.hid ek
  clear ek
  have hk' : (k : Int) < 8 := by omega
  have c0 := h.c0
  have cH := h.cH k hk
  have cL := h.cL k hk
  have hz := h.lt
  go_enter Try.func20, Try.ntmps20
  go_wp2_with fail
  go_region
  all_goals
    have h1 := (h.alloc (.cells #[.int .u32 (s.H k), .int .u32 (s.L k)] 26)).drew
    have f1 := ((Fr.refl (fun k => k = g) w).alloc (.cells #[.int .u32 (s.H k), .int .u32 (s.L k)] 26)).drew
    have hq := heap_alloc_last w (.cells #[.int .u32 (s.H k), .int .u32 (s.L k)] 26)
    have q0 : (w.alloc (.cells #[.int .u32 (s.H k), .int .u32 (s.L k)] 26)).drew.cell? ⟨w.heap.size, 0, none⟩ = some (.int .u32 (s.H k)) := cell_of_row _ _ 0 _ _ _ hq
    have q1 : (w.alloc (.cells #[.int .u32 (s.H k), .int .u32 (s.L k)] 26)).drew.cell? ⟨w.heap.size, 1, none⟩ = some (.int .u32 (s.L k)) := cell_of_row _ _ 1 _ _ _ hq
    clear hq cH cL c0
    generalize (w.alloc (.cells #[.int .u32 (s.H k), .int .u32 (s.L k)] 26)).drew = W1 at h1 f1 q0 q1 ⊢
    go_wp2_with fail
    refine (rwrite_any 10 (s.H k) h1 (h.ok.h k)).mono ?_
    rintro e w2 ⟨rfl, t2⟩
    have q2 := cell_fr t2.fr q1 (show ¬ w.heap.size = g by omega)
    clear q0 q1
    go_wp2_with fail
    refine (rwrite_any 2 (s.L k) t2.at_ (h.ok.l k)).mono ?_
    rintro e w3 ⟨rfl, t3⟩
    go_wp2_with fail
    go_end0
    exact ⟨rfl, Tn.to ⟨t3.at_, (f1.trans t2.fr).trans t3.fr⟩ (by unfold getF; rw [show (s.C 0 % 8).toNat = k by have := EK.out; omega])⟩
set_option maxHeartbeats 1000000 in
theorem rput7_any (r : Bool) (h : StAt w g s) :
    Calls Try.prog 23 #[.pointer (some ⟨g, 0, none⟩), .bool r] w (RetT (.tuple #[]) w g (putF s r)) := by
  obtain ⟨k, hk, ek⟩ : ∃ k : Nat, k < 8 ∧ chF s r = k := ⟨(chF s r).toNat, by have := ch_rng s r; omega, by have := ch_rng s r; omega⟩
  have EK := Lib.hid ek
  have hk' : (k : Int) < 8 := by omega
  have c0 := h.c0
  have c2 := h.c2
  have c10 := h.c10
  have cH := h.cH k hk
  have cL := h.cL k hk
  have fH := h.frozenAt (55 + k * 2)
  have fL := h.frozenAt (55 + k * 2 + 1)
  have T : Tn w ((w.setCell ⟨g, 55 + k * 2, none⟩ (.int .u32 (s.C 10))).setCell ⟨g, 55 + k * 2 + 1, none⟩ (.int .u32 (s.C 2))).drew g (putF s r) := Tn.to (s := (s.setH k (s.C 10)).setL k (s.C 2)) ⟨((h.setH k hk _ (h.ok.c 10)).setL k hk _ (h.ok.c 2)).drew, (((Fr.refl (fun k => k = g) w).setCell (.inl rfl) _).setCell (.inl rfl) _).drew⟩ (by unfold putF; rw [ek, Int.toNat_natCast])
  cases r
  · have e7 : bits .and .u32 (s.C 0) 7 = k := (and7 _ (h.ok.c 0)).trans ek
    clear ek
    go_enter Try.func23, Try.ntmps23
    go_wp2_with fail
    go_region
    all_goals
      go_wp2_with fail
      go_end0
      exact ⟨rfl, T⟩
  · clear ek
    go_enter Try.func23, Try.ntmps23
    go_wp2_with fail
    refine (rread_any 1 h).mono ?_
    rintro e w1 ⟨rfl, rfl⟩
    rw [show rdF s 1 = k from EK.out]
    go_wp2_with fail
    go_region
    all_goals
      go_wp2_with fail
      go_end0
      exact ⟨rfl, T⟩
set_option maxHeartbeats 1000000 in
theorem rprobe_any (h : StAt w g s) :
    Calls Try.prog 21 #[.pointer (some ⟨g, 0, none⟩)] w (RetT (.tuple #[]) w g (prbF s)) := by
  have c0 := h.c0
  have f0 := h.frozenAt 39
  have t1 := (Turned.refl h).setC 0 (by decide) 2147483648 ⟨by decide, by decide⟩
  have t1' : Tn w (w.setCell ⟨g, 39, none⟩ (.int .u32 2147483648)) g (prb0 s) := t1.tn
  have c10 : w.cell? ⟨g, 49, none⟩ = some (.int .u32 ((prb0 s).C 10)) := h.c10
  go_enter Try.func21, Try.ntmps21
  go_wp2_with fail
  refine (rfind_any _ t1'.at_).mono ?_
  rintro e w3 ⟨rfl, b3⟩
  have t3 := t1'.trans (Tn.of_below t1'.at_ b3)
  clear t1 t1' b3 c0 f0 c10
  rcases find_cases (prb0 s) ((prb0 s).C 10) with hf | ⟨k, hk, hf⟩
  · have HF := Lib.hid hf
    clear hf
    rw [HF.out]
    go_wp2_with fail
    go_end0
    exact ⟨rfl, t3.to (by unfold prbF; rw [if_pos HF.out])⟩
  · have HF := Lib.hid hf
    clear hf
    rw [HF.out]
    have e1 : (0 : Int) ≤ k := by omega
    have e2 : (k : Int) % 4294967296 = k := by omega
    have c0 := t3.at_.c0
    have f0 := t3.at_.frozenAt 39
    go_wp2_with fail
    go_end0
    exact ⟨rfl, (t3.trans ((Turned.refl t3.at_).setC 0 (by decide) k ⟨by omega, by omega⟩).tn).to (by unfold prbF; rw [if_neg (by rw [HF.out]; omega), HF.out])⟩
end
end Go.Proofs.Ytckgkelggmhldaa
