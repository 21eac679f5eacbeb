/-
  Chapter 8: the document's own Lies, on any State: the same words as package seg's Find.
-/
import Derived.Test.YtecddcbkgelcmaaSg8
namespace Go.Proofs.Ytecddcbkgelcmaa
open Go.RowKit
set_option linter.unusedVariables false
section
variable {w : World} {g : Nat} {s : St}
set_option maxHeartbeats 1000000 in
theorem lies1 (va : Int) (st : Bool) (h : StAt w g s) (hv : W32 va) :
    Calls Try.prog 16 #[.pointer (some ⟨g, 0, none⟩), .int .u32 va, .int .i64 1, .bool st] w (RetB (segV s va 1 st) w) := by
  unfold segV
  obtain ⟨v0, v1⟩ := id hv
  clear hv
  have hz : szI 1 = 1 := rfl
  by_cases hm : va % szI 1 = 0
  · cases hu : userB s
    · by_cases hi : 2147483648 ≤ va
      · by_cases hc : va < 3221225472
        · have HL := Lib.hid (seg_direct (st := st) hm hi hu hc)
          have HU := Lib.hid hu
          rw [hz] at hm
          clear hu hz
          go_enter Try.func16, Try.ntmps16
          go_wp2_with fail
          refine (ruser_any h).mono ?_
          rintro e w1 ⟨rfl, rfl⟩
          rw [HU.out]
          go_wp2_with fail
          refine bodyPost_ret (by simp [results, go_sem]; rfl) rfl ⟨?_, Below.refl _ _⟩
          exact ret_three HL.out.symm
        · have HL := Lib.hid (seg_high (st := st) hm hu (by omega))
          have HU := Lib.hid hu
          rw [hz] at hm
          clear hu hz
          go_enter Try.func16, Try.ntmps16
          go_wp2_with fail
          refine (ruser_any h).mono ?_
          rintro e w1 ⟨rfl, rfl⟩
          rw [HU.out]
          go_wp2_with fail
          refine (rlook_any va st h).mono ?_
          rintro e w1 ⟨rfl, b1⟩
          unfold lookV
          go_wp2_with fail
          refine bodyPost_ret (by simp [results, go_sem]; rfl) rfl ⟨?_, b1⟩
          exact ret_three HL.out.symm
      · have HL := Lib.hid (seg_low (s := s) (st := st) hm (by omega))
        have hi' : va < 2147483648 := by omega
        have HU := Lib.hid hu
        rw [hz] at hm
        clear hu hz
        go_enter Try.func16, Try.ntmps16
        go_wp2_with fail
        refine (ruser_any h).mono ?_
        rintro e w1 ⟨rfl, rfl⟩
        rw [HU.out]
        go_wp2_with fail
        refine (rlook_any va st h).mono ?_
        rintro e w1 ⟨rfl, b1⟩
        unfold lookV
        go_wp2_with fail
        refine bodyPost_ret (by simp [results, go_sem]; rfl) rfl ⟨?_, b1⟩
        exact ret_three HL.out.symm
    · by_cases hi : 2147483648 ≤ va
      · have HL := Lib.hid (seg_user (n := 1) (st := st) hi hu)
        have HU := Lib.hid hu
        rw [hz] at hm
        clear hu hz
        cases st
        all_goals
          go_enter Try.func16, Try.ntmps16
          go_wp2_with fail
          refine (ruser_any h).mono ?_
          rintro e w1 ⟨rfl, rfl⟩
          rw [HU.out]
          go_wp2_with fail
          refine bodyPost_ret (by simp [results, go_sem]; rfl) rfl ⟨?_, Below.refl _ _⟩
          exact ret_three HL.out.symm
      · have HL := Lib.hid (seg_low (s := s) (st := st) hm (by omega))
        have hi' : va < 2147483648 := by omega
        have HU := Lib.hid hu
        rw [hz] at hm
        clear hu hz
        go_enter Try.func16, Try.ntmps16
        go_wp2_with fail
        refine (ruser_any h).mono ?_
        rintro e w1 ⟨rfl, rfl⟩
        rw [HU.out]
        go_wp2_with fail
        refine (rlook_any va st h).mono ?_
        rintro e w1 ⟨rfl, b1⟩
        unfold lookV
        go_wp2_with fail
        refine bodyPost_ret (by simp [results, go_sem]; rfl) rfl ⟨?_, b1⟩
        exact ret_three HL.out.symm
  · exact absurd (show va % 1 = 0 by omega) hm
set_option maxHeartbeats 1000000 in
theorem lies2 (va : Int) (st : Bool) (h : StAt w g s) (hv : W32 va) :
    Calls Try.prog 16 #[.pointer (some ⟨g, 0, none⟩), .int .u32 va, .int .i64 2, .bool st] w (RetB (segV s va 2 st) w) := by
  unfold segV
  obtain ⟨v0, v1⟩ := id hv
  clear hv
  have hz : szI 2 = 2 := rfl
  by_cases hm : va % szI 2 = 0
  · cases hu : userB s
    · by_cases hi : 2147483648 ≤ va
      · by_cases hc : va < 3221225472
        · have HL := Lib.hid (seg_direct (st := st) hm hi hu hc)
          have HU := Lib.hid hu
          rw [hz] at hm
          clear hu hz
          go_enter Try.func16, Try.ntmps16
          go_wp2_with fail
          refine (ruser_any h).mono ?_
          rintro e w1 ⟨rfl, rfl⟩
          rw [HU.out]
          go_wp2_with fail
          refine bodyPost_ret (by simp [results, go_sem]; rfl) rfl ⟨?_, Below.refl _ _⟩
          exact ret_three HL.out.symm
        · have HL := Lib.hid (seg_high (st := st) hm hu (by omega))
          have HU := Lib.hid hu
          rw [hz] at hm
          clear hu hz
          go_enter Try.func16, Try.ntmps16
          go_wp2_with fail
          refine (ruser_any h).mono ?_
          rintro e w1 ⟨rfl, rfl⟩
          rw [HU.out]
          go_wp2_with fail
          refine (rlook_any va st h).mono ?_
          rintro e w1 ⟨rfl, b1⟩
          unfold lookV
          go_wp2_with fail
          refine bodyPost_ret (by simp [results, go_sem]; rfl) rfl ⟨?_, b1⟩
          exact ret_three HL.out.symm
      · have HL := Lib.hid (seg_low (s := s) (st := st) hm (by omega))
        have hi' : va < 2147483648 := by omega
        have HU := Lib.hid hu
        rw [hz] at hm
        clear hu hz
        go_enter Try.func16, Try.ntmps16
        go_wp2_with fail
        refine (ruser_any h).mono ?_
        rintro e w1 ⟨rfl, rfl⟩
        rw [HU.out]
        go_wp2_with fail
        refine (rlook_any va st h).mono ?_
        rintro e w1 ⟨rfl, b1⟩
        unfold lookV
        go_wp2_with fail
        refine bodyPost_ret (by simp [results, go_sem]; rfl) rfl ⟨?_, b1⟩
        exact ret_three HL.out.symm
    · by_cases hi : 2147483648 ≤ va
      · have HL := Lib.hid (seg_user (n := 2) (st := st) hi hu)
        have HU := Lib.hid hu
        rw [hz] at hm
        clear hu hz
        cases st
        all_goals
          go_enter Try.func16, Try.ntmps16
          go_wp2_with fail
          refine (ruser_any h).mono ?_
          rintro e w1 ⟨rfl, rfl⟩
          rw [HU.out]
          go_wp2_with fail
          refine bodyPost_ret (by simp [results, go_sem]; rfl) rfl ⟨?_, Below.refl _ _⟩
          exact ret_three HL.out.symm
      · have HL := Lib.hid (seg_low (s := s) (st := st) hm (by omega))
        have hi' : va < 2147483648 := by omega
        have HU := Lib.hid hu
        rw [hz] at hm
        clear hu hz
        go_enter Try.func16, Try.ntmps16
        go_wp2_with fail
        refine (ruser_any h).mono ?_
        rintro e w1 ⟨rfl, rfl⟩
        rw [HU.out]
        go_wp2_with fail
        refine (rlook_any va st h).mono ?_
        rintro e w1 ⟨rfl, b1⟩
        unfold lookV
        go_wp2_with fail
        refine bodyPost_ret (by simp [results, go_sem]; rfl) rfl ⟨?_, b1⟩
        exact ret_three HL.out.symm
  · have HL := Lib.hid (seg_odd (s := s) (st := st) hm)
    rw [hz] at hm
    clear hz
    cases st
    all_goals
      go_enter Try.func16, Try.ntmps16
      go_wp2_with fail
      refine bodyPost_ret (by simp [results, go_sem]; rfl) rfl ⟨?_, Below.refl _ _⟩
      exact ret_three HL.out.symm
set_option maxHeartbeats 1000000 in
theorem lies4 (va : Int) (n : Int) (n1 : ¬ n = 1) (n2 : ¬ n = 2) (st : Bool) (h : StAt w g s) (hv : W32 va) :
    Calls Try.prog 16 #[.pointer (some ⟨g, 0, none⟩), .int .u32 va, .int .i64 n, .bool st] w (RetB (segV s va n st) w) := by
  unfold segV
  obtain ⟨v0, v1⟩ := id hv
  clear hv
  have e1 : (n != 1) = true := by simpa using n1
  have e2 : (n != 2) = true := by simpa using n2
  have hz : szI n = 4 := by unfold szI; rw [if_neg n1, if_neg n2]
  clear n1 n2
  by_cases hm : va % szI n = 0
  · cases hu : userB s
    · by_cases hi : 2147483648 ≤ va
      · by_cases hc : va < 3221225472
        · have HL := Lib.hid (seg_direct (st := st) hm hi hu hc)
          have HU := Lib.hid hu
          rw [hz] at hm
          clear hu hz
          go_enter Try.func16, Try.ntmps16
          go_wp2_with fail
          refine (ruser_any h).mono ?_
          rintro e w1 ⟨rfl, rfl⟩
          rw [HU.out]
          go_wp2_with fail
          refine bodyPost_ret (by simp [results, go_sem]; rfl) rfl ⟨?_, Below.refl _ _⟩
          exact ret_three HL.out.symm
        · have HL := Lib.hid (seg_high (st := st) hm hu (by omega))
          have HU := Lib.hid hu
          rw [hz] at hm
          clear hu hz
          go_enter Try.func16, Try.ntmps16
          go_wp2_with fail
          refine (ruser_any h).mono ?_
          rintro e w1 ⟨rfl, rfl⟩
          rw [HU.out]
          go_wp2_with fail
          refine (rlook_any va st h).mono ?_
          rintro e w1 ⟨rfl, b1⟩
          unfold lookV
          go_wp2_with fail
          refine bodyPost_ret (by simp [results, go_sem]; rfl) rfl ⟨?_, b1⟩
          exact ret_three HL.out.symm
      · have HL := Lib.hid (seg_low (s := s) (st := st) hm (by omega))
        have hi' : va < 2147483648 := by omega
        have HU := Lib.hid hu
        rw [hz] at hm
        clear hu hz
        go_enter Try.func16, Try.ntmps16
        go_wp2_with fail
        refine (ruser_any h).mono ?_
        rintro e w1 ⟨rfl, rfl⟩
        rw [HU.out]
        go_wp2_with fail
        refine (rlook_any va st h).mono ?_
        rintro e w1 ⟨rfl, b1⟩
        unfold lookV
        go_wp2_with fail
        refine bodyPost_ret (by simp [results, go_sem]; rfl) rfl ⟨?_, b1⟩
        exact ret_three HL.out.symm
    · by_cases hi : 2147483648 ≤ va
      · have HL := Lib.hid (seg_user (n := n) (st := st) hi hu)
        have HU := Lib.hid hu
        rw [hz] at hm
        clear hu hz
        cases st
        all_goals
          go_enter Try.func16, Try.ntmps16
          go_wp2_with fail
          refine (ruser_any h).mono ?_
          rintro e w1 ⟨rfl, rfl⟩
          rw [HU.out]
          go_wp2_with fail
          refine bodyPost_ret (by simp [results, go_sem]; rfl) rfl ⟨?_, Below.refl _ _⟩
          exact ret_three HL.out.symm
      · have HL := Lib.hid (seg_low (s := s) (st := st) hm (by omega))
        have hi' : va < 2147483648 := by omega
        have HU := Lib.hid hu
        rw [hz] at hm
        clear hu hz
        go_enter Try.func16, Try.ntmps16
        go_wp2_with fail
        refine (ruser_any h).mono ?_
        rintro e w1 ⟨rfl, rfl⟩
        rw [HU.out]
        go_wp2_with fail
        refine (rlook_any va st h).mono ?_
        rintro e w1 ⟨rfl, b1⟩
        unfold lookV
        go_wp2_with fail
        refine bodyPost_ret (by simp [results, go_sem]; rfl) rfl ⟨?_, b1⟩
        exact ret_three HL.out.symm
  · have HL := Lib.hid (seg_odd (s := s) (st := st) hm)
    rw [hz] at hm
    clear hz
    cases st
    all_goals
      go_enter Try.func16, Try.ntmps16
      go_wp2_with fail
      refine bodyPost_ret (by simp [results, go_sem]; rfl) rfl ⟨?_, Below.refl _ _⟩
      exact ret_three HL.out.symm
theorem lies_any (va n : Int) (st : Bool) (h : StAt w g s) (hv : W32 va) :
    Calls Try.prog 16 #[.pointer (some ⟨g, 0, none⟩), .int .u32 va, .int .i64 n, .bool st] w (RetB (segV s va n st) w) := by
  by_cases n1 : n = 1
  · subst n1; exact lies1 va st h hv
  · by_cases n2 : n = 2
    · subst n2; exact lies2 va st h hv
    · exact lies4 va n n1 n2 st h hv
end
end Go.Proofs.Ytecddcbkgelcmaa
