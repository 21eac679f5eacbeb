/-
  Chapter 7: Look, Get, Put, Probe of package tlb, on any State.
-/
import Derived.Test.YtecddcbkgelcmaaTlF
namespace Go.Proofs.Ytecddcbkgelcmaa
open Go.RowKit
set_option linter.unusedVariables false
/-- three answers -/
theorem ret_three {a a' b b' : Int} {c c' : Bool} (h : (a, b, c) = (a', b', c')) : Ending.returned (.tuple #[.int .u32 a, .int .i64 b, .bool c]) = .returned (.tuple #[.int .u32 a', .int .i64 b', .bool c']) := by
  injection h with h1 h2
  injection h2 with h2 h3
  rw [h1, h2, h3]
theorem find_cases (s : St) (va : Int) : findF s va = -1 ∨ ∃ k : Nat, k < 8 ∧ findF s va = k := by
  rcases find_rng s va with h | h
  · exact .inl h
  · exact .inr ⟨(findF s va).toNat, by omega, by omega⟩
theorem look_none {s : St} {va : Int} {st : Bool} (h : findF s va = -1) : lookF s va st = (0, missI7 st, true) := by unfold lookF; rw [if_pos h]
theorem look_inv {s : St} {va : Int} {st : Bool} {k : Nat} (h : findF s va = k) (hv : bits .and .u32 (s.L k) 1 = 0) : lookF s va st = (0, missI7 st, false) := by
  unfold lookF; rw [if_neg (by omega), h, Int.toNat_natCast, if_pos hv]
theorem look_mod {s : St} {va : Int} {k : Nat} (h : findF s va = k) (hv : ¬ bits .and .u32 (s.L k) 1 = 0) (hd : bits .and .u32 (s.L k) 2 = 0) : lookF s va true = (0, 1, false) := by
  unfold lookF; rw [if_neg (by omega), h, Int.toNat_natCast, if_neg hv, if_pos ⟨rfl, hd⟩]
theorem look_at {s : St} {va : Int} {st : Bool} {k : Nat} (h : findF s va = k) (hv : ¬ bits .and .u32 (s.L k) 1 = 0) (hd : ¬ (st = true ∧ bits .and .u32 (s.L k) 2 = 0)) : lookF s va st = (bits .or .u32 (bits .andNot .u32 (s.L k) 1023) (bits .and .u32 va 1023), -1, false) := by
  unfold lookF; rw [if_neg (by omega), h, Int.toNat_natCast, if_neg hv, if_neg hd]
section
variable {w : World} {g : Nat} {s : St}
set_option maxHeartbeats 1000000 in
theorem look_any (va : Int) (st : Bool) (h : StAt w g s) (hv : W32 va) :
    Calls Try.prog 23 #[.pointer (some ⟨g, 0, none⟩), .int .u32 va, .bool st] w (RetB (lookV s va st) w) := by
  unfold lookV
  rcases find_cases s va with hf | ⟨k, hk, hf⟩
  · have HF := Lib.hid hf
    clear hf
    go_enter Try.func23, Try.ntmps23
    go_wp2_with fail
    refine (find_any va h hv).mono ?_
    rintro e w1 ⟨rfl, b1⟩
    rw [HF.out]
    go_wp2_with fail
    refine (missing_any st w1).mono ?_
    rintro e w2 ⟨rfl, rfl⟩
    go_wp2_with fail
    refine bodyPost_ret (by simp [results, go_sem]; rfl) rfl ⟨?_, b1⟩
    exact ret_three (look_none HF.out).symm
  · have HF := Lib.hid hf
    clear hf
    have hk' : (k : Int) < 8 := by omega
    by_cases hV : bits .and .u32 (s.L k) 1 = 0
    · have hV' : (bits .and .u32 (s.L k) 1 == 0) = true := by simp [hV]
      have HW := Lib.hid hV
      clear hV
      go_enter Try.func23, Try.ntmps23
      go_wp2_with fail
      refine (find_any va h hv).mono ?_
      rintro e w1 ⟨rfl, b1⟩
      rw [HF.out]
      have c1 := (h.below b1).cL k hk
      go_wp2_with fail
      refine (missing_any st w1).mono ?_
      rintro e w2 ⟨rfl, rfl⟩
      go_wp2_with fail
      refine bodyPost_ret (by simp [results, go_sem]; rfl) rfl ⟨?_, b1⟩
      exact ret_three (look_inv HF.out HW.out).symm
    · have hV' : (bits .and .u32 (s.L k) 1 == 0) = false := by simp [hV]
      have HW := Lib.hid hV
      clear hV
      by_cases hD : st = true ∧ bits .and .u32 (s.L k) 2 = 0
      · obtain ⟨rfl, hD⟩ := hD
        have hD' : (bits .and .u32 (s.L k) 2 == 0) = true := by simp [hD]
        have HE := Lib.hid hD
        clear hD
        go_enter Try.func23, Try.ntmps23
        go_wp2_with fail
        refine (find_any va h hv).mono ?_
        rintro e w1 ⟨rfl, b1⟩
        rw [HF.out]
        have c1 := (h.below b1).cL k hk
        go_wp2_with fail
        refine bodyPost_ret (by simp [results, go_sem]; rfl) rfl ⟨?_, b1⟩
        exact ret_three (look_mod HF.out HW.out HE.out).symm
      · cases st
        · clear hD
          go_enter Try.func23, Try.ntmps23
          go_wp2_with fail
          refine (find_any va h hv).mono ?_
          rintro e w1 ⟨rfl, b1⟩
          rw [HF.out]
          have c1 := (h.below b1).cL k hk
          go_wp2_with fail
          refine bodyPost_ret (by simp [results, go_sem]; rfl) rfl ⟨?_, b1⟩
          exact ret_three (look_at HF.out HW.out (by simp)).symm
        · have hD' : (bits .and .u32 (s.L k) 2 == 0) = false := by simp at hD; simp [hD]
          have HE := Lib.hid hD
          clear hD
          go_enter Try.func23, Try.ntmps23
          go_wp2_with fail
          refine (find_any va h hv).mono ?_
          rintro e w1 ⟨rfl, b1⟩
          rw [HF.out]
          have c1 := (h.below b1).cL k hk
          go_wp2_with fail
          refine bodyPost_ret (by simp [results, go_sem]; rfl) rfl ⟨?_, b1⟩
          exact ret_three (look_at HF.out HW.out (by have := HE.out; simpa using this)).symm
end
end Go.Proofs.Ytecddcbkgelcmaa
