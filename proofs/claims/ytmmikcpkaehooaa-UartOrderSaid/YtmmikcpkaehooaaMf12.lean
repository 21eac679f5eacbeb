/-
  Chapter 12: status, Read, Line, Fire, Out and New of package uart.
-/
import Derived.Test.YtmmikcpkaehooaaMe12
import Derived.Laws.CopyOwn
import Derived.Laws.BytesArg
namespace Go.Proofs.Ytmmikcpkaehooaa
open Go.RowKit
set_option linter.unusedVariables false
set_option linter.unusedSimpArgs false
/-- the status word: one is there that came; the queue of what goes is full; one was lost; nothing is to go -/
def stB (c f l e : Bool) : Int := (match c with | true => 1 | false => 0) + (match f with | true => 2 | false => 0) + (match l with | true => 4 | false => 0) + (match e with | true => 8 | false => 0)
def stW (S : US) : Int := stB (decide (0 < S.came.length)) (decide (S.goes.length = 16)) S.lost (decide (S.goes.length = 0))
section
variable {W0 w w' : World} {t g c1 c2 : Nat} {d : Int} {v v2 o o2 : Value} {S : US}
set_option maxRecDepth 100000 in
set_option maxHeartbeats 4000000 in
theorem status_any (h : One W0 w t g c1 c2 d v o S) :
    Calls Try.prog 23 #[.pointer (some ⟨t, 0, none⟩)] w fun e w' => e = .returned (.int .u32 (stW S)) ∧ w = w' := by
  have k2 := h.k2
  have k3 := h.k3
  have k5 := h.k5
  obtain ⟨x, HX⟩ : ∃ x, Hid (stW S = x) := ⟨_, rfl⟩
  have HX2 : Hid (stB (decide (0 < S.came.length)) (decide (S.goes.length = 16)) S.lost (decide (S.goes.length = 0)) = x) := HX
  rw [HX.out]
  clear HX
  obtain ⟨n, hN⟩ : ∃ n, S.came.length = n := ⟨_, rfl⟩
  obtain ⟨m, hM⟩ : ∃ m, S.goes.length = m := ⟨_, rfl⟩
  have l1 := h.l1 hN
  have l2 := h.l2 hM
  rw [hN, hM] at HX2
  clear hN hM
  by_cases hm0 : m = 0
  · subst hm0
    cases hl : S.lost
    all_goals
      rw [hl] at k5 HX2
      by_cases hn : 0 < n
      · have hnI : (0 : Int) < n := by omega
        rw [decide_eq_true hn] at HX2
        have HX : Hid (x = stB true false _ true) := HX2.out.symm
        clear hl HX2
        rw [HX.out]
        go_enter Try.func23, Try.ntmps23
        go_wp2
        go_ret
        exact ⟨rfl, rfl⟩
      · obtain rfl : n = 0 := by omega
        have HX : Hid (x = stB false false _ true) := HX2.out.symm
        clear hl HX2 hn
        rw [HX.out]
        go_enter Try.func23, Try.ntmps23
        go_wp2
        go_ret
        exact ⟨rfl, rfl⟩
  · have hmb : ((m : Int) == 0) = false := beq_false_of_ne (by omega)
    by_cases hm1 : m = 16
    · subst hm1
      cases hl : S.lost
      all_goals
        rw [hl] at k5 HX2
        by_cases hn : 0 < n
        · have hnI : (0 : Int) < n := by omega
          rw [decide_eq_true hn] at HX2
          have HX : Hid (x = stB true true _ false) := HX2.out.symm
          clear hl HX2
          rw [HX.out]
          go_enter Try.func23, Try.ntmps23
          go_wp2
          go_ret
          exact ⟨rfl, rfl⟩
        · obtain rfl : n = 0 := by omega
          have HX : Hid (x = stB false true _ false) := HX2.out.symm
          clear hl HX2 hn
          rw [HX.out]
          go_enter Try.func23, Try.ntmps23
          go_wp2
          go_ret
          exact ⟨rfl, rfl⟩
    · have hmc : ((m : Int) == 16) = false := beq_false_of_ne (by omega)
      rw [decide_eq_false hm1, decide_eq_false hm0] at HX2
      cases hl : S.lost
      all_goals
        rw [hl] at k5 HX2
        by_cases hn : 0 < n
        · have hnI : (0 : Int) < n := by omega
          rw [decide_eq_true hn] at HX2
          have HX : Hid (x = stB true false _ false) := HX2.out.symm
          clear hl HX2 hm0 hm1
          rw [HX.out]
          go_enter Try.func23, Try.ntmps23
          go_wp2
          go_ret
          exact ⟨rfl, rfl⟩
        · obtain rfl : n = 0 := by omega
          have HX : Hid (x = stB false false _ false) := HX2.out.symm
          clear hl HX2 hn hm0 hm1
          rw [HX.out]
          go_enter Try.func23, Try.ntmps23
          go_wp2
          go_ret
          exact ⟨rfl, rfl⟩
set_option maxRecDepth 100000 in
set_option maxHeartbeats 1000000 in
theorem read0_byte (b : Int) {L : List Int} (h : One W0 w t g c1 c2 d v o S) (hq : S.came = b :: L) (b0 : 0 ≤ b) (b1 : b < 256) :
    Calls Try.prog 12 #[.pointer (some ⟨t, 0, none⟩), .int .u32 0] w (RetO (.tuple #[.int .u32 b, .bool true]) W0 t g c1 c2 d { S with came := L }) := by
  have HQ := Lib.hid hq
  clear hq
  go_enter Try.func12, Try.ntmps12
  go_wp2_with fail
  with_reducible refine (next_byte b h HQ.out b0 b1).mono ?_
  rintro e w1 ⟨rfl, v1, o1, h1⟩
  go_wp2
  go_ret2
  exact ⟨rfl, v1, o1, h1⟩
set_option maxRecDepth 100000 in
set_option maxHeartbeats 1000000 in
theorem read0_none (h : One W0 w t g c1 c2 d v o S) (hq : S.came = []) :
    Calls Try.prog 12 #[.pointer (some ⟨t, 0, none⟩), .int .u32 0] w fun e w' => e = .returned (.tuple #[.int .u32 256, .bool true]) ∧ w = w' := by
  have HQ := Lib.hid hq
  clear hq
  go_enter Try.func12, Try.ntmps12
  go_wp2_with fail
  with_reducible refine (next_none h HQ.out).mono ?_
  rintro e w1 ⟨rfl, rfl⟩
  go_wp2
  go_ret2
  exact ⟨rfl, rfl⟩
set_option maxRecDepth 100000 in
set_option maxHeartbeats 1000000 in
theorem read4_any (h : One W0 w t g c1 c2 d v o S) :
    Calls Try.prog 12 #[.pointer (some ⟨t, 0, none⟩), .int .u32 4] w fun e w' => e = .returned (.tuple #[.int .u32 (stW S), .bool true]) ∧ w = w' := by
  go_enter Try.func12, Try.ntmps12
  go_wp2_with fail
  with_reducible refine (status_any h).mono ?_
  rintro e w1 ⟨rfl, rfl⟩
  go_wp2
  go_ret2
  exact ⟨rfl, rfl⟩
end
end Go.Proofs.Ytmmikcpkaehooaa
