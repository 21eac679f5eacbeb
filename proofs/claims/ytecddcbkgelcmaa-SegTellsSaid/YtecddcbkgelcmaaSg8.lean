/-
  Chapter 8: where an address lies: the functions of package seg and the document's own (Lies, Mode), on any State, in the same words.
-/
import Derived.Test.YtecddcbkgelcmaaTlR
namespace Go.Proofs.Ytecddcbkgelcmaa
open Go.RowKit
set_option linter.unusedVariables false
/-- as many bytes as n stands for -/
def szI (n : Int) : Int := if n = 1 then 1 else if n = 2 then 2 else 4
/-- the exception of an address that may not be asked for -/
def wrongI (st : Bool) : Int := if st then 5 else 4
def segF (s : St) (va n : Int) (st : Bool) : Int × Int × Bool :=
  if ¬ va % szI n = 0 ∨ (2147483648 ≤ va ∧ userB s = true) then (0, wrongI st, false)
  else if 2147483648 ≤ va ∧ va < 3221225472 then (bits .and .u32 va 536870911, -1, false)
  else lookF s va st
def segV (s : St) (va n : Int) (st : Bool) : Value := .tuple #[.int .u32 (segF s va n st).1, .int .i64 (segF s va n st).2.1, .bool (segF s va n st).2.2]
def modeF (s : St) : Int := if userB s then bits .and .u32 (s.C 10) 255 + 256 else bits .and .u32 (s.C 10) 255
theorem sz_cases (n : Int) : szI n = 1 ∨ szI n = 2 ∨ szI n = 4 := by
  unfold szI
  split
  · exact .inl rfl
  · split
    · exact .inr (.inl rfl)
    · exact .inr (.inr rfl)
section
variable {s : St} {va n : Int} {st : Bool}
theorem seg_odd (h : ¬ va % szI n = 0) : segF s va n st = (0, wrongI st, false) := by unfold segF; rw [if_pos (.inl h)]
theorem seg_user (h : 2147483648 ≤ va) (hu : userB s = true) : segF s va n st = (0, wrongI st, false) := by unfold segF; rw [if_pos (.inr ⟨h, hu⟩)]
theorem seg_direct (h : va % szI n = 0) (h1 : 2147483648 ≤ va) (hu : userB s = false) (h2 : va < 3221225472) : segF s va n st = (bits .and .u32 va 536870911, -1, false) := by
  unfold segF
  rw [if_neg (by rintro (x | x); exact x h; rw [hu] at x; exact absurd x.2 (by decide)), if_pos ⟨h1, h2⟩]
theorem seg_low (h : va % szI n = 0) (h1 : va < 2147483648) : segF s va n st = lookF s va st := by
  unfold segF
  rw [if_neg (by rintro (x | x); exact x h; omega), if_neg (by omega)]
theorem seg_high (h : va % szI n = 0) (hu : userB s = false) (h1 : 3221225472 ≤ va) : segF s va n st = lookF s va st := by
  unfold segF
  rw [if_neg (by rintro (x | x); exact x h; rw [hu] at x; exact absurd x.2 (by decide)), if_neg (by omega)]
theorem w_255 (x : Int) : W32 (bits .and .u32 x 255) := w_and _ _
end
theorem size_any (n : Int) (w : World) : Calls Try.prog 21 #[.int .i64 n] w fun e w' => e = .returned (.int .u32 (szI n)) ∧ w = w' := by
  by_cases h1 : n = 1
  · subst h1
    go_enter Try.func21, Try.ntmps21
    go_wp2
    go_ret
    exact ⟨rfl, rfl⟩
  · by_cases h2 : n = 2
    · subst h2
      go_enter Try.func21, Try.ntmps21
      go_wp2
      go_ret
      exact ⟨rfl, rfl⟩
    · have e1 : (n == 1) = false := by simpa using h1
      have e2 : (n == 2) = false := by simpa using h2
      have z : szI n = 4 := by unfold szI; rw [if_neg h1, if_neg h2]
      rw [z]
      clear h1 h2 z
      go_enter Try.func21, Try.ntmps21
      go_wp2
      go_ret
      exact ⟨rfl, rfl⟩
theorem wrong_any (st : Bool) (w : World) : Calls Try.prog 22 #[.bool st] w fun e w' => e = .returned (.int .i64 (wrongI st)) ∧ w = w' := by
  cases st
  all_goals
    go_enter Try.func22, Try.ntmps22
    go_wp2
    go_ret
    exact ⟨rfl, rfl⟩
section
variable {w : World} {g : Nat} {s : St}
set_option maxHeartbeats 1000000 in
theorem mode_any (h : StAt w g s) : Calls Try.prog 17 #[.pointer (some ⟨g, 0, none⟩)] w fun e w' => e = .returned (.int .i64 (modeF s)) ∧ w = w' := by
  obtain ⟨b0, b1⟩ := w_255 (s.C 10)
  go_enter Try.func17, Try.ntmps17
  go_wp2_with fail
  refine (read_any 10 h).mono ?_
  rintro e w1 ⟨rfl, rfl⟩
  rw [show rdF s 10 = s.C 10 from rfl]
  go_wp2_with fail
  refine (user_any h).mono ?_
  rintro e w1 ⟨rfl, rfl⟩
  cases hu : userB s
  · have M : modeF s = bits .and .u32 (s.C 10) 255 := by unfold modeF; rw [hu]; rfl
    have HM := Lib.hid M
    clear hu M
    go_wp2_with fail
    go_ret
    exact ⟨ret_int HM.out.symm, rfl⟩
  · have M : modeF s = bits .and .u32 (s.C 10) 255 + 256 := by unfold modeF; rw [hu]; rfl
    have HM := Lib.hid M
    clear hu M
    go_wp2_with fail
    go_ret
    exact ⟨ret_int HM.out.symm, rfl⟩
set_option maxHeartbeats 1000000 in
theorem rmode_any (h : StAt w g s) : Calls Try.prog 18 #[.pointer (some ⟨g, 0, none⟩)] w fun e w' => e = .returned (.int .i64 (modeF s)) ∧ w = w' := by
  obtain ⟨b0, b1⟩ := w_255 (s.C 10)
  have c10 := h.c10
  go_enter Try.func18, Try.ntmps18
  go_wp2_with fail
  refine (ruser_any h).mono ?_
  rintro e w1 ⟨rfl, rfl⟩
  cases hu : userB s
  · have M : modeF s = bits .and .u32 (s.C 10) 255 := by unfold modeF; rw [hu]; rfl
    have HM := Lib.hid M
    clear hu M
    go_wp2_with fail
    go_ret
    exact ⟨ret_int HM.out.symm, rfl⟩
  · have M : modeF s = bits .and .u32 (s.C 10) 255 + 256 := by unfold modeF; rw [hu]; rfl
    have HM := Lib.hid M
    clear hu M
    go_wp2_with fail
    go_ret
    exact ⟨ret_int HM.out.symm, rfl⟩
set_option maxHeartbeats 1000000 in
theorem segfind_any (va n : Int) (st : Bool) (h : StAt w g s) (hv : W32 va) :
    Calls Try.prog 12 #[.pointer (some ⟨g, 0, none⟩), .int .u32 va, .int .i64 n, .bool st] w (RetB (segV s va n st) w) := by
  unfold segV
  obtain ⟨v0, v1⟩ := id hv
  have HV := Lib.hid hv
  clear hv
  have hz := sz_cases n
  by_cases hm : va % szI n = 0
  · by_cases hi : 2147483648 ≤ va
    · cases hu : userB s
      · by_cases hc : va < 3221225472
        · have HL := Lib.hid (seg_direct (st := st) hm hi hu hc)
          have HU := Lib.hid hu
          clear hu
          go_enter Try.func12, Try.ntmps12
          go_wp2_with fail
          refine (size_any n w).mono ?_
          rintro e w1 ⟨rfl, rfl⟩
          generalize szI n = z at hz hm
          rcases hz with rfl | rfl | rfl
          all_goals
            go_wp2_with fail
            refine (user_any h).mono ?_
            rintro e w1 ⟨rfl, rfl⟩
            rw [HU.out]
            go_wp2_with fail
            refine bodyPost_ret (by simp [results, go_sem]; rfl) rfl ⟨?_, Below.refl _ _⟩
            exact ret_three HL.out.symm
        · have HL := Lib.hid (seg_high (st := st) hm hu (by omega))
          have HU := Lib.hid hu
          clear hu
          go_enter Try.func12, Try.ntmps12
          go_wp2_with fail
          refine (size_any n w).mono ?_
          rintro e w1 ⟨rfl, rfl⟩
          generalize szI n = z at hz hm
          rcases hz with rfl | rfl | rfl
          all_goals
            go_wp2_with fail
            refine (user_any h).mono ?_
            rintro e w1 ⟨rfl, rfl⟩
            rw [HU.out]
            go_wp2_with fail
            refine (look_any va st h HV.out).mono ?_
            rintro e w1 ⟨rfl, b1⟩
            unfold lookV
            go_wp2_with fail
            refine bodyPost_ret (by simp [results, go_sem]; rfl) rfl ⟨?_, b1⟩
            exact ret_three HL.out.symm
      · have HL := Lib.hid (seg_user (n := n) (st := st) hi hu)
        have HU := Lib.hid hu
        clear hu
        go_enter Try.func12, Try.ntmps12
        go_wp2_with fail
        refine (size_any n w).mono ?_
        rintro e w1 ⟨rfl, rfl⟩
        generalize szI n = z at hz hm
        rcases hz with rfl | rfl | rfl
        all_goals
          go_wp2_with fail
          refine (user_any h).mono ?_
          rintro e w1 ⟨rfl, rfl⟩
          rw [HU.out]
          go_wp2_with fail
          refine (wrong_any st w).mono ?_
          rintro e w1 ⟨rfl, rfl⟩
          go_wp2_with fail
          refine bodyPost_ret (by simp [results, go_sem]; rfl) rfl ⟨?_, Below.refl _ _⟩
          exact ret_three HL.out.symm
    · have HL := Lib.hid (seg_low (s := s) (st := st) hm (by omega))
      have hi' : va < 2147483648 := by omega
      go_enter Try.func12, Try.ntmps12
      go_wp2_with fail
      refine (size_any n w).mono ?_
      rintro e w1 ⟨rfl, rfl⟩
      generalize szI n = z at hz hm
      rcases hz with rfl | rfl | rfl
      all_goals
        go_wp2_with fail
        refine (look_any va st h HV.out).mono ?_
        rintro e w1 ⟨rfl, b1⟩
        unfold lookV
        go_wp2_with fail
        refine bodyPost_ret (by simp [results, go_sem]; rfl) rfl ⟨?_, b1⟩
        exact ret_three HL.out.symm
  · have HL := Lib.hid (seg_odd (s := s) (st := st) hm)
    go_enter Try.func12, Try.ntmps12
    go_wp2_with fail
    refine (size_any n w).mono ?_
    rintro e w1 ⟨rfl, rfl⟩
    generalize szI n = z at hz hm
    rcases hz with rfl | rfl | rfl
    · exact absurd (show va % 1 = 0 by omega) hm
    all_goals
      go_wp2_with fail
      refine (wrong_any st w).mono ?_
      rintro e w1 ⟨rfl, rfl⟩
      go_wp2_with fail
      refine bodyPost_ret (by simp [results, go_sem]; rfl) rfl ⟨?_, Below.refl _ _⟩
      exact ret_three HL.out.symm
end
end Go.Proofs.Ytecddcbkgelcmaa
