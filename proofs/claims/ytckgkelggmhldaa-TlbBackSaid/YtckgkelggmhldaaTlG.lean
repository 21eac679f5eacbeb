/-
  Chapter 7: Look, Get, Put, Probe of package tlb, on any State.
-/
import Derived.Test.YtckgkelggmhldaaTlF
namespace Go.Proofs.Ytckgkelggmhldaa
open Go.RowKit
set_option linter.unusedVariables false
/-- three answers -/
theorem ret_three {a a' b b' : Int} {c c' : Bool} (h : (a, b, c) = (a', b', c')) : Ending.returned (.tuple #[.int .u32 a, .int .i64 b, .bool c]) = .returned (.tuple #[.int .u32 a', .int .i64 b', .bool c']) := by
  injection h with h1 h2
  injection h2 with h2 h3
  rw [h1, h2, h3]
theorem find_cases (s : St) (va : Int) : findF s va = -1 ∨ ∃ k : Nat, k < 8 ∧ findF s va = k := by
  rcases find_rng s va with h | h
  · exact .inl h
  · exact .inr ⟨(findF s va).toNat, by omega, by omega⟩
theorem look_none {s : St} {va : Int} {st : Bool} (h : findF s va = -1) : lookF s va st = (0, missI7 st, true) := by unfold lookF; rw [if_pos h]
theorem look_inv {s : St} {va : Int} {st : Bool} {k : Nat} (h : findF s va = k) (hv : bits .and .u32 (s.L k) 1 = 0) : lookF s va st = (0, missI7 st, false) := by
  unfold lookF; rw [if_neg (by omega), h, Int.toNat_natCast, if_pos hv]
theorem look_mod {s : St} {va : Int} {k : Nat} (h : findF s va = k) (hv : ¬ bits .and .u32 (s.L k) 1 = 0) (hd : bits .and .u32 (s.L k) 2 = 0) : lookF s va true = (0, 1, false) := by
  unfold lookF; rw [if_neg (by omega), h, Int.toNat_natCast, if_neg hv, if_pos ⟨rfl, hd⟩]
theorem look_at {s : St} {va : Int} {st : Bool} {k : Nat} (h : findF s va = k) (hv : ¬ bits .and .u32 (s.L k) 1 = 0) (hd : ¬ (st = true ∧ bits .and .u32 (s.L k) 2 = 0)) : lookF s va st = (bits .or .u32 (bits .andNot .u32 (s.L k) 1023) (bits .and .u32 va 1023), -1, false) := by
  unfold lookF; rw [if_neg (by omega), h, Int.toNat_natCast, if_neg hv, if_neg hd]
section
variable {w : World} {g : Nat} {s : St}
set_option maxHeartbeats 1000000 in
theorem look_any (va : Int) (st : Bool) (h : StAt w g s) (hv : W32 va) :
    Calls Try.prog 18 #[.pointer (some ⟨g, 0, none⟩), .int .u32 va, .bool st] w (RetB (lookV s va st) w) := by
  unfold lookV
  rcases find_cases s va with hf | ⟨k, hk, hf⟩
  · have HF := Lib.hid hf
    clear hf
    go_enter Try.func18, Try.ntmps18
    go_wp2_with fail
    refine (find_any va h hv).mono ?_
    rintro e w1 ⟨rfl, b1⟩
    rw [HF.out]
    go_wp2_with fail
    refine (missing_any st w1).mono ?_
    rintro e w2 ⟨rfl, rfl⟩
    go_wp2_with fail
    refine bodyPost_ret (by simp [results, go_sem]; rfl) rfl ⟨?_, b1⟩
    exact ret_three (look_none HF.out).symm
  · have HF := Lib.hid hf
    clear hf
    have hk' : (k : Int) < 8 := by omega
    by_cases hV : bits .and .u32 (s.L k) 1 = 0
    · have hV' : (bits .and .u32 (s.L k) 1 == 0) = true := by simp [hV]
      have HW := Lib.hid hV
      clear hV
      go_enter Try.func18, Try.ntmps18
      go_wp2_with fail
      refine (find_any va h hv).mono ?_
      rintro e w1 ⟨rfl, b1⟩
      rw [HF.out]
      have c1 := (h.below b1).cL k hk
      go_wp2_with fail
      refine (missing_any st w1).mono ?_
      rintro e w2 ⟨rfl, rfl⟩
      go_wp2_with fail
      refine bodyPost_ret (by simp [results, go_sem]; rfl) rfl ⟨?_, b1⟩
      exact ret_three (look_inv HF.out HW.out).symm
    · have hV' : (bits .and .u32 (s.L k) 1 == 0) = false := by simp [hV]
      have HW := Lib.hid hV
      clear hV
      by_cases hD : st = true ∧ bits .and .u32 (s.L k) 2 = 0
      · obtain ⟨rfl, hD⟩ := hD
        have hD' : (bits .and .u32 (s.L k) 2 == 0) = true := by simp [hD]
        have HE := Lib.hid hD
        clear hD
        go_enter Try.func18, Try.ntmps18
        go_wp2_with fail
        refine (find_any va h hv).mono ?_
        rintro e w1 ⟨rfl, b1⟩
        rw [HF.out]
        have c1 := (h.below b1).cL k hk
        go_wp2_with fail
        refine bodyPost_ret (by simp [results, go_sem]; rfl) rfl ⟨?_, b1⟩
        exact ret_three (look_mod HF.out HW.out HE.out).symm
      · cases st
        · clear hD
          go_enter Try.func18, Try.ntmps18
          go_wp2_with fail
          refine (find_any va h hv).mono ?_
          rintro e w1 ⟨rfl, b1⟩
          rw [HF.out]
          have c1 := (h.below b1).cL k hk
          go_wp2_with fail
          refine bodyPost_ret (by simp [results, go_sem]; rfl) rfl ⟨?_, b1⟩
          exact ret_three (look_at HF.out HW.out (by simp)).symm
        · have hD' : (bits .and .u32 (s.L k) 2 == 0) = false := by simp at hD; simp [hD]
          have HE := Lib.hid hD
          clear hD
          go_enter Try.func18, Try.ntmps18
          go_wp2_with fail
          refine (find_any va h hv).mono ?_
          rintro e w1 ⟨rfl, b1⟩
          rw [HF.out]
          have c1 := (h.below b1).cL k hk
          go_wp2_with fail
          refine bodyPost_ret (by simp [results, go_sem]; rfl) rfl ⟨?_, b1⟩
          exact ret_three (look_at HF.out HW.out (by have := HE.out; simpa using this)).symm
theorem chosen_any (r : Bool) (h : StAt w g s) :
    Calls Try.prog 29 #[.pointer (some ⟨g, 0, none⟩), .bool r] w fun e w' => e = .returned (.int .u32 (chF s r)) ∧ w = w' := by
  cases r
  · have o0 := (h.ok.c 0).1
    go_enter Try.func29, Try.ntmps29
    go_wp2_with fail
    refine (read_any 0 h).mono ?_
    rintro e w1 ⟨rfl, rfl⟩
    rw [show rdF s 0 = s.C 0 from rfl]
    go_wp2_with fail
    go_ret
    exact ⟨rfl, rfl⟩
  · go_enter Try.func29, Try.ntmps29
    go_wp2_with fail
    refine (read_any 1 h).mono ?_
    rintro e w1 ⟨rfl, rfl⟩
    go_wp2_with fail
    go_ret
    exact ⟨rfl, rfl⟩
set_option maxHeartbeats 1000000 in
theorem get_any (h : StAt w g s) :
    Calls Try.prog 17 #[.pointer (some ⟨g, 0, none⟩)] w (RetT (.tuple #[]) w g (getF s)) := by
  obtain ⟨k, hk, ek⟩ : ∃ k : Nat, k < 8 ∧ chF s false = k := ⟨(chF s false).toNat, by have := ch_rng s false; omega, by have := ch_rng s false; omega⟩
  have EK := Lib.hid ek
  clear ek
  have hk' : (k : Int) < 8 := by omega
  have cH := h.cH k hk
  have cL := h.cL k hk
  have hz := h.lt
  go_enter Try.func17, Try.ntmps17
  go_wp2_with fail
  go_region_with (first
    | (go_at_call 29; refine (chosen_any false h.drew).mono ?_; rintro e w9 ⟨rfl, rfl⟩; rw [EK.out])
    | (go_at_call 29; refine (chosen_any false (h.drew.alloc _)).mono ?_; rintro e w9 ⟨rfl, rfl⟩; rw [EK.out]))
  all_goals
    have h1 := (h.alloc (.cells #[.int .u32 (s.H k), .int .u32 (s.L k)] 26)).drew
    have f1 := ((Fr.refl (fun k => k = g) w).alloc (.cells #[.int .u32 (s.H k), .int .u32 (s.L k)] 26)).drew
    have hq := heap_alloc_last w (.cells #[.int .u32 (s.H k), .int .u32 (s.L k)] 26)
    have q0 : (w.alloc (.cells #[.int .u32 (s.H k), .int .u32 (s.L k)] 26)).drew.cell? ⟨w.heap.size, 0, none⟩ = some (.int .u32 (s.H k)) := cell_of_row _ _ 0 _ _ _ hq
    have q1 : (w.alloc (.cells #[.int .u32 (s.H k), .int .u32 (s.L k)] 26)).drew.cell? ⟨w.heap.size, 1, none⟩ = some (.int .u32 (s.L k)) := cell_of_row _ _ 1 _ _ _ hq
    clear hq cH cL
    generalize (w.alloc (.cells #[.int .u32 (s.H k), .int .u32 (s.L k)] 26)).drew = W1 at h1 f1 q0 q1 ⊢
    go_wp2_with fail
    refine (write_any 10 (s.H k) h1 (h.ok.h k)).mono ?_
    rintro e w2 ⟨rfl, t2⟩
    have q2 := cell_fr t2.fr q1 (show ¬ w.heap.size = g by omega)
    clear q0 q1
    go_wp2_with fail
    refine (write_any 2 (s.L k) t2.at_ (h.ok.l k)).mono ?_
    rintro e w3 ⟨rfl, t3⟩
    go_wp2_with fail
    go_end0
    exact ⟨rfl, Tn.to ⟨t3.at_, (f1.trans t2.fr).trans t3.fr⟩ (by unfold getF; rw [show (s.C 0 % 8).toNat = k by have := EK.out; unfold chF at this; simp at this; omega])⟩
set_option maxHeartbeats 1000000 in
theorem put7_any (r : Bool) (h : StAt w g s) :
    Calls Try.prog 14 #[.pointer (some ⟨g, 0, none⟩), .bool r] w (RetT (.tuple #[]) w g (putF s r)) := by
  obtain ⟨k, hk, ek⟩ : ∃ k : Nat, k < 8 ∧ chF s r = k := ⟨(chF s r).toNat, by have := ch_rng s r; omega, by have := ch_rng s r; omega⟩
  have EK := Lib.hid ek
  clear ek
  have hk' : (k : Int) < 8 := by omega
  have cH := h.cH k hk
  have cL := h.cL k hk
  have fH := h.frozenAt (55 + k * 2)
  have fL := h.frozenAt (55 + k * 2 + 1)
  have E10 : rdF s 10 = s.C 10 := rfl
  have E2 : rdF s 2 = s.C 2 := rfl
  go_enter Try.func14, Try.ntmps14
  go_wp2_with fail
  go_region_with (first
    | (go_at_call 29; refine (chosen_any r h.drew).mono ?_; rintro e w9 ⟨rfl, rfl⟩; rw [EK.out])
    | (go_at_call 28; refine (read_any _ h.drew).mono ?_; rintro e w9 ⟨rfl, rfl⟩; first | rw [E10] | rw [E2]))
  all_goals
    go_wp2_with fail
    go_end0
    exact ⟨rfl, Tn.to (s := (s.setH k (s.C 10)).setL k (s.C 2)) ⟨((h.setH k hk _ (h.ok.c 10)).setL k hk _ (h.ok.c 2)).drew, (((Fr.refl (fun k => k = g) w).setCell (.inl rfl) _).setCell (.inl rfl) _).drew⟩ (by unfold putF; rw [EK.out, Int.toNat_natCast])⟩
set_option maxHeartbeats 1000000 in
theorem probe_any (h : StAt w g s) :
    Calls Try.prog 16 #[.pointer (some ⟨g, 0, none⟩)] w (RetT (.tuple #[]) w g (prbF s)) := by
  have c0 := h.c0
  have f0 := h.frozenAt 39
  have t1 := (Turned.refl h).setC 0 (by decide) 2147483648 ⟨by decide, by decide⟩
  have t1' : Tn w (w.setCell ⟨g, 39, none⟩ (.int .u32 2147483648)) g (prb0 s) := t1.tn
  go_enter Try.func16, Try.ntmps16
  go_wp2_with fail
  refine (read_any 10 t1'.at_).mono ?_
  rintro e w2 ⟨rfl, rfl⟩
  rw [show rdF (prb0 s) 10 = (prb0 s).C 10 from rfl]
  go_wp2_with fail
  refine (find_any _ t1'.at_ (t1'.at_.ok.c 10)).mono ?_
  rintro e w3 ⟨rfl, b3⟩
  have t3 := t1'.trans (Tn.of_below t1'.at_ b3)
  clear t1 t1' b3 c0 f0
  rcases find_cases (prb0 s) ((prb0 s).C 10) with hf | ⟨k, hk, hf⟩
  · have HF := Lib.hid hf
    clear hf
    rw [HF.out]
    go_wp2_with fail
    go_end0
    exact ⟨rfl, t3.to (by unfold prbF; rw [if_pos HF.out])⟩
  · have HF := Lib.hid hf
    clear hf
    rw [HF.out]
    have e1 : ((k : Int) != -1) = true := by simp
    have e2 : (k : Int) % 4294967296 = k := by omega
    have c0 := t3.at_.c0
    have f0 := t3.at_.frozenAt 39
    go_wp2_with fail
    go_end0
    exact ⟨rfl, (t3.trans ((Turned.refl t3.at_).setC 0 (by decide) k ⟨by omega, by omega⟩).tn).to (by unfold prbF; rw [if_neg (by rw [HF.out]; omega), HF.out])⟩
end
end Go.Proofs.Ytckgkelggmhldaa
