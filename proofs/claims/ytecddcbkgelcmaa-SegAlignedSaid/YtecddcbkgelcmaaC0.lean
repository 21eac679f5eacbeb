/-
  Chapter 6: the functions of package cp0, each on any State: what it returns, what the State holds behind it.
-/
import Derived.Test.YtecddcbkgelcmaaC0M
import Derived.RegionTactic
import Derived.BigRegion
import Derived.Deep.Draws
namespace Go.Proofs.Ytecddcbkgelcmaa
open Go.RowKit
set_option linter.unusedVariables false
/-- the blocks from B on -/
def New (B k : Nat) : Prop := B ≤ k
theorem Fr.new {S : Nat → Prop} {a b : World} {B : Nat} (h : Fr S a b) (hs : ∀ k, S k → B ≤ k) : Fr (New B) a b := h.mono hs
theorem Fr.newB {a b : World} (h : Fr (New a.heap.size) a b) : Below a.heap.size a b := h.below (Nat.le_refl _) (fun k hk x => absurd x (by unfold New; omega))
section
variable {w : World} {g : Nat} {s : St}
set_option maxHeartbeats 400000 in
theorem jump_any (x : Int) (h : StAt w g s) (hx : W32 x) :
    Calls Try.prog 14 #[.pointer (some ⟨g, 0, none⟩), .int .u32 x] w (RetS (.tuple #[]) w g (s.jump x)) := by
  have c1 := h.cPC
  have c2 := h.cNext
  have c3 := h.cSlot
  have f1 := h.frozenAt 34
  have f2 := h.frozenAt 35
  have f3 := h.frozenAt 36
  go_enter Try.func14, Try.ntmps14
  go_wp2
  go_end0
  exact ⟨rfl, (((Turned.refl h).setPC x hx).setNext _ (w_mod _)).setSlot false⟩
set_option maxHeartbeats 400000 in
theorem put_any (n m v : Int) (h : StAt w g s) (n0 : 0 ≤ n) (n1 : n < 16) :
    Calls Try.prog 15 #[.pointer (some ⟨g, 0, none⟩), .int .i64 n, .int .u32 m, .int .u32 v] w (RetS (.tuple #[]) w g (s.setC n.toNat (pu (s.C n.toNat) m v))) := by
  have c1 := h.cC n.toNat (by omega)
  have f1 := h.frozenAt (39 + n.toNat)
  go_enter Try.func15, Try.ntmps15
  go_wp2
  go_region
  go_end0
  exact ⟨rfl, ((Turned.refl h).setC n.toNat (by omega) _ (w_or _ _)).drew⟩
set_option maxHeartbeats 400000 in
theorem fresh_any (w : World) : Calls Try.prog 7 #[] w (RetB (.agg freshF.arr) w) := by
  go_enter Try.func7, Try.ntmps7
  go_wp2_with (with_reducible refine wpList_allocSt ?_)
  intro b1 w1 l1 h1 f1
  go_wp2_with (with_reducible refine wpList_allocSt ?_)
  intro b2 w2 l2 h2 f2
  have h3 := h1.fr f2 id
  have c15 := h2.c15
  have fz := h2.frozenAt 54
  have q1 := h1.lt
  have q2 := f1.size
  go_wp2_with fail
  refine (jump_any 2147484672 (h2.setC 15 (by omega) 98304 ⟨by omega, by omega⟩) ⟨by omega, by omega⟩).mono ?_
  rintro e w3 ⟨rfl, t3⟩
  have h4 := (h3.setOther (a := ⟨b2, 54, none⟩) (show b1 ≠ b2 by omega) (.int .u32 98304)).fr t3.fr (show b1 ≠ b2 by omega)
  go_wp2_with (first | (refine wpList_loadSt rfl t3.at_ ?_) | (refine wpList_storeSt rfl rfl h4 t3.at_.ok ?_))
  intro w4 t4
  go_wp2_with fail
  refine bodyPost_ret (results_st rfl rfl t4.at_) rfl ⟨rfl, Fr.newB ?_⟩
  exact ((((f1.new (fun _ x => x.elim)).trans (f2.new (fun _ x => x.elim))).setCell (x := ⟨b2, 54, none⟩) (.inl (show w.heap.size ≤ b2 by omega)) _).trans (t3.fr.new (by rintro k rfl; omega))).trans (t4.fr.new (by rintro k rfl; omega))

set_option maxHeartbeats 400000 in
theorem read_any (n : Int) (h : StAt w g s) :
    Calls Try.prog 26 #[.pointer (some ⟨g, 0, none⟩), .int .i64 n] w fun e w' => e = .returned (.int .u32 (rdF s n)) ∧ w = w' := by
  by_cases hn : n = 0 ∨ n = 1 ∨ n = 2 ∨ n = 8 ∨ n = 9 ∨ n = 10 ∨ n = 11 ∨ n = 12 ∨ n = 13 ∨ n = 14 ∨ n = 15
  · have c0 := h.c0
    have c2 := h.c2
    have c8 := h.c8
    have c9 := h.c9
    have c10 := h.c10
    have c11 := h.c11
    have c12 := h.c12
    have c13 := h.c13
    have c14 := h.c14
    have c15 := h.c15
    have o9 := (h.ok.c 9).1
    rcases hn with rfl | rfl | rfl | rfl | rfl | rfl | rfl | rfl | rfl | rfl | rfl
    all_goals
      go_enter Try.func26, Try.ntmps26
      go_wp2
      go_ret
      exact ⟨rfl, rfl⟩
  · have e1 : (n == 1) = false := by simp; omega
    have e0 : (n == 0) = false := by simp; omega
    have e2 : (n == 2) = false := by simp; omega
    have e8 : (n == 8) = false := by simp; omega
    have e9 : (n == 9) = false := by simp; omega
    have e10 : (n == 10) = false := by simp; omega
    have e11 : (n == 11) = false := by simp; omega
    have e12 : (n == 12) = false := by simp; omega
    have e13 : (n == 13) = false := by simp; omega
    have e14 : (n == 14) = false := by simp; omega
    have e15 : (n == 15) = false := by simp; omega
    have z : rdF s n = 0 := by unfold rdF; rw [if_neg (by omega), if_neg (by omega)]
    rw [z]
    clear hn z
    go_enter Try.func26, Try.ntmps26
    go_wp2
    go_ret
    exact ⟨rfl, rfl⟩
set_option maxHeartbeats 400000 in
theorem read_nil (n : Int) (w : World) :
    Calls Try.prog 26 #[.pointer none, .int .i64 n] w fun e w' => e = .returned (.int .u32 0) ∧ w = w' := by
  go_enter Try.func26, Try.ntmps26
  go_wp2
  go_ret
  exact ⟨rfl, rfl⟩

set_option maxHeartbeats 400000 in
theorem write_any (n v : Int) (h : StAt w g s) (hv : W32 v) :
    Calls Try.prog 8 #[.pointer (some ⟨g, 0, none⟩), .int .i64 n, .int .u32 v] w (RetS (.tuple #[]) w g (wrF s n v)) := by
  by_cases hn : n = 0 ∨ n = 2 ∨ n = 10 ∨ n = 9 ∨ n = 14 ∨ n = 12
  · have c0 := h.c0
    have c2 := h.c2
    have c9 := h.c9
    have c10 := h.c10
    have c12 := h.c12
    have c14 := h.c14
    have f0 := h.frozenAt 39
    have f2 := h.frozenAt 41
    have f9 := h.frozenAt 48
    have f10 := h.frozenAt 49
    have f12 := h.frozenAt 51
    have f14 := h.frozenAt 53
    rcases hn with rfl | rfl | rfl | rfl | rfl | rfl
    · go_enter Try.func8, Try.ntmps8
      go_wp2
      go_end0
      exact ⟨rfl, (Turned.refl h).setC 0 (by decide) _ (w_and _ _)⟩
    · go_enter Try.func8, Try.ntmps8
      go_wp2
      go_end0
      exact ⟨rfl, (Turned.refl h).setC 2 (by decide) _ (w_and _ _)⟩
    · go_enter Try.func8, Try.ntmps8
      go_wp2
      go_end0
      exact ⟨rfl, (Turned.refl h).setC 10 (by decide) _ (w_and _ _)⟩
    · go_enter Try.func8, Try.ntmps8
      go_wp2
      go_end0
      exact ⟨rfl, (Turned.refl h).setC 9 (by decide) _ (hv)⟩
    · go_enter Try.func8, Try.ntmps8
      go_wp2
      go_end0
      exact ⟨rfl, (Turned.refl h).setC 14 (by decide) _ (hv)⟩
    · go_enter Try.func8, Try.ntmps8
      go_wp2
      go_end0
      exact ⟨rfl, (Turned.refl h).setC 12 (by decide) _ (w_and _ _)⟩
  · by_cases h11 : n = 11
    · subst h11
      clear hn
      have c11 := h.c11
      have f11 := h.frozenAt 50
      go_enter Try.func8, Try.ntmps8
      go_wp2_with fail
      refine (put_any 13 32768 0 (h.setC 11 (by omega) v hv) (by omega) (by omega)).mono ?_
      rintro e w3 ⟨rfl, t3⟩
      go_wp2_with fail
      go_end0
      exact ⟨rfl, ((Turned.refl h).setC 11 (by omega) v hv).trans t3⟩
    · by_cases h13 : n = 13
      · subst h13
        clear hn h11
        go_enter Try.func8, Try.ntmps8
        go_wp2_with fail
        refine (put_any 13 768 v h (by omega) (by omega)).mono ?_
        rintro e w3 ⟨rfl, t3⟩
        go_wp2_with fail
        go_end0
        exact ⟨rfl, t3⟩
      · have z : wrF s n v = s := by unfold wrF; simp only [if_neg (show ¬ n = 0 by omega), if_neg (show ¬ n = 2 by omega), if_neg (show ¬ n = 10 by omega), if_neg (show ¬ n = 9 by omega), if_neg (show ¬ n = 14 by omega), if_neg h11, if_neg (show ¬ n = 12 by omega), if_neg h13]
        have e0 : (n == 0) = false := by simp; omega
        have e2 : (n == 2) = false := by simp; omega
        have e10 : (n == 10) = false := by simp; omega
        have e9 : (n == 9) = false := by simp; omega
        have e14 : (n == 14) = false := by simp; omega
        have e11 : (n == 11) = false := by simp; omega
        have e12 : (n == 12) = false := by simp; omega
        have e13 : (n == 13) = false := by simp; omega
        rw [z]
        clear hn z h11 h13
        go_enter Try.func8, Try.ntmps8
        go_wp2
        go_end0
        exact ⟨rfl, Turned.refl h⟩
set_option maxHeartbeats 400000 in
theorem write_nil (n v : Int) (w : World) :
    Calls Try.prog 8 #[.pointer none, .int .i64 n, .int .u32 v] w fun e w' => e = .returned (.tuple #[]) ∧ w = w' := by
  go_enter Try.func8, Try.ntmps8
  go_wp2
  refine bodyPost_ret (results_none rfl _ _ _) rfl ?_
  exact ⟨rfl, rfl⟩
set_option maxHeartbeats 400000 in
theorem user_any (h : StAt w g s) :
    Calls Try.prog 13 #[.pointer (some ⟨g, 0, none⟩)] w fun e w' => e = .returned (.bool (userB s)) ∧ w = w' := by
  have c12 := h.c12
  go_enter Try.func13, Try.ntmps13
  go_wp2
  go_ret
  exact ⟨ret_bool (user_prog s h.ok), rfl⟩
set_option maxHeartbeats 400000 in
theorem user_nil (w : World) :
    Calls Try.prog 13 #[.pointer none] w fun e w' => e = .returned (.bool false) ∧ w = w' := by
  go_enter Try.func13, Try.ntmps13
  go_wp2
  go_ret
  exact ⟨rfl, rfl⟩
end
end Go.Proofs.Ytecddcbkgelcmaa
