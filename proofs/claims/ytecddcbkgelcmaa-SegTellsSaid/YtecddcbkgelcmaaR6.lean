/-
  Chapter 6: the document's own functions (pianolaref6), each on any State: what it returns, what the State holds behind it: the same words as package cp0's.
-/
import Derived.Test.YtecddcbkgelcmaaC0
namespace Go.Proofs.Ytecddcbkgelcmaa
open Go.RowKit
set_option linter.unusedVariables false
theorem setC_over (s : St) (p a b c : Int) : ((((s.setC 14 p).setC 13 a).setC 14 b).setC 13 c) = (s.setC 14 b).setC 13 c := by
  simp only [St.setC]
  congr 1
  funext j
  by_cases h : j = 13
  · simp [h]
  · by_cases k : j = 14 <;> simp [h, k]
theorem setC_twice (s : St) (n : Nat) (a b : Int) : (s.setC n a).setC n b = s.setC n b := by
  simp only [St.setC]
  congr 1
  funext j
  by_cases h : j = n <;> simp [h]
/-- a register n is named in api -/
def namedB (n : Int) : Bool := decide ((0 ≤ n ∧ n ≤ 2) ∨ (8 ≤ n ∧ n ≤ 15))
/-- a State with its place alone -/
def placeF : St := (St.zero.setPC 2147484672).setNext 2147484676
theorem placeF_ok : placeF.Ok := { St.zero_ok with pc := ⟨by decide, by decide⟩, nx := ⟨by decide, by decide⟩ }
theorem built_place : Try.prog.built 30 [(3, .int .u32 2147484672), (4, .int .u32 2147484676)] = some placeF.arr := by kernel_rfl
theorem wpList_buildPlace {ops : Array Oper} {rest : List Oper} {a : Act} {w : World} {Q : Exit → Act → World → Prop} {dst : Option Tmp} {ty : TypeId} {pos : String} {aft : Array Edge} (h : wpList Try.prog ops Q rest (a.put dst (.agg placeF.arr)) w) :
    wpList Try.prog ops Q (⟨dst, .build 30 #[(3, .const (.int .u32 2147484672)), (4, .const (.int .u32 2147484676))], ty, pos, aft, none⟩ :: rest) a w :=
  wpList_plain rfl fun K hK => by
    have hr := run_build (P := Try.prog) w 30 #[(3, .int .u32 2147484672), (4, .int .u32 2147484676)] placeF.arr built_place
    unfold Oper.wp execOp
    have e : (#[(3, Operand.const (.int .u32 2147484672)), (4, Operand.const (.int .u32 2147484676))].map fun (x : Nat × Operand) => (x.1, a.eval x.2)) = #[(3, .int .u32 2147484672), (4, .int .u32 2147484676)] := by simp [Act.eval]
    simp only [e, Sem.run_bind, hr, Result.andThen_ok, Sem.run_pure]
    exact hK _ _ h
section
variable {w : World} {g : Nat} {s : St}

set_option maxHeartbeats 400000 in
theorem rfresh_any (w : World) : Calls Try.prog 19 #[] w (RetB (.agg freshF.arr) w) := by
  go_enter Try.func19, Try.ntmps19
  go_wp2_with (with_reducible refine wpList_allocSt ?_)
  intro b1 w1 l1 h1 f1
  go_wp2_with (first | (with_reducible refine wpList_buildPlace ?_) | (with_reducible refine wpList_allocSt ?_))
  intro b2 w2 l2 h2 f2
  go_wp2_with (refine wpList_storeSt rfl rfl h2 placeF_ok ?_)
  intro w2' t2
  have h3 := h1.fr f2 id
  have q1 := h1.lt
  have q2 := f1.size
  have c15 := t2.at_.c15
  have fz3 := t2.at_.frozenAt 54
  have T := t2.setC 15 (by omega) 98304 ⟨by omega, by omega⟩
  have h4 := h3.fr T.fr (show b1 ≠ b2 by omega)
  go_wp2_with (first | (refine wpList_loadSt rfl T.at_ ?_) | (refine wpList_storeSt rfl rfl h4 T.at_.ok ?_))
  intro w4 t4
  go_wp2_with fail
  refine bodyPost_ret (results_st rfl rfl t4.at_) rfl ⟨rfl, Fr.newB ?_⟩
  exact (((f1.new (fun _ x => x.elim)).trans (f2.new (fun _ x => x.elim))).trans (T.fr.new (by rintro k rfl; omega))).trans (t4.fr.new (by rintro k rfl; omega))

set_option maxHeartbeats 400000 in
theorem rwrite_any (n v : Int) (h : StAt w g s) (hv : W32 v) :
    Calls Try.prog 20 #[.pointer (some ⟨g, 0, none⟩), .int .i64 n, .int .u32 v] w (RetS (.tuple #[]) w g (wrF s n v)) := by
  by_cases hn : n = 0 ∨ n = 2 ∨ n = 10 ∨ n = 9 ∨ n = 14 ∨ n = 12
  · skip
    have c0 := h.c0
    have f0 := h.frozenAt 39
    have c2 := h.c2
    have f2 := h.frozenAt 41
    have c9 := h.c9
    have f9 := h.frozenAt 48
    have c10 := h.c10
    have f10 := h.frozenAt 49
    have c12 := h.c12
    have f12 := h.frozenAt 51
    have c14 := h.c14
    have f14 := h.frozenAt 53
    rcases hn with rfl | rfl | rfl | rfl | rfl | rfl
    · go_enter Try.func20, Try.ntmps20
      go_wp2
      go_end0
      exact ⟨rfl, (Turned.refl h).setC 0 (by decide) _ (w_and _ _)⟩
    · go_enter Try.func20, Try.ntmps20
      go_wp2
      go_end0
      exact ⟨rfl, (Turned.refl h).setC 2 (by decide) _ (w_and _ _)⟩
    · go_enter Try.func20, Try.ntmps20
      go_wp2
      go_end0
      exact ⟨rfl, (Turned.refl h).setC 10 (by decide) _ (w_and _ _)⟩
    · go_enter Try.func20, Try.ntmps20
      go_wp2
      go_end0
      exact ⟨rfl, (Turned.refl h).setC 9 (by decide) _ (hv)⟩
    · go_enter Try.func20, Try.ntmps20
      go_wp2
      go_end0
      exact ⟨rfl, (Turned.refl h).setC 14 (by decide) _ (hv)⟩
    · go_enter Try.func20, Try.ntmps20
      go_wp2
      go_end0
      exact ⟨rfl, (Turned.refl h).setC 12 (by decide) _ (w_and _ _)⟩
  · by_cases h11 : n = 11
    · subst h11
      clear hn
      have c11 := h.c11
      have f11 := h.frozenAt 50
      have c13 := h.c13
      have f13 := h.frozenAt 52
      go_enter Try.func20, Try.ntmps20
      go_wp2_with fail
      go_region
      go_wp2_with fail
      go_end0
      rw [pu_clear]
      exact ⟨rfl, (((Turned.refl h).setC 11 (by omega) v hv).setC 13 (by omega) _ (w_pu _ _ _)).drew⟩
    · by_cases h13 : n = 13
      · subst h13
        clear hn h11
        have c13 := h.c13
        have f13 := h.frozenAt 52
        go_enter Try.func20, Try.ntmps20
        go_wp2_with fail
        go_region
        go_wp2_with fail
        go_end0
        exact ⟨rfl, ((Turned.refl h).setC 13 (by omega) _ (w_or _ _)).drew⟩
      · have z : wrF s n v = s := by unfold wrF; simp only [if_neg (show ¬ n = 0 by omega), if_neg (show ¬ n = 2 by omega), if_neg (show ¬ n = 10 by omega), if_neg (show ¬ n = 9 by omega), if_neg (show ¬ n = 14 by omega), if_neg h11, if_neg (show ¬ n = 12 by omega), if_neg h13]
        have e0 : (n == 0) = false := by simp; omega
        have e2 : (n == 2) = false := by simp; omega
        have e10 : (n == 10) = false := by simp; omega
        have e9 : (n == 9) = false := by simp; omega
        have e14 : (n == 14) = false := by simp; omega
        have e11 : (n == 11) = false := by simp; omega
        have e12 : (n == 12) = false := by simp; omega
        have e13 : (n == 13) = false := by simp; omega
        rw [z]
        clear hn z h11 h13
        go_enter Try.func20, Try.ntmps20
        go_wp2
        go_end0
        exact ⟨rfl, Turned.refl h⟩

set_option maxHeartbeats 400000 in
theorem ruser_any (h : StAt w g s) :
    Calls Try.prog 24 #[.pointer (some ⟨g, 0, none⟩)] w fun e w' => e = .returned (.bool (userB s)) ∧ w = w' := by
  have c12 := h.c12
  cases h4 : tb (s.C 12) 4
  · have t4 : (bits .and .u32 (s.C 12) 16 != 0) = false := by rw [and_16 _ (h.ok.c 12), h4]; rfl
    have H4 := Lib.hid h4
    clear h4
    go_enter Try.func24, Try.ntmps24
    go_wp2
    go_ret
    exact ⟨ret_bool (by unfold userB; rw [H4.out]; rfl), rfl⟩
  · have t4 : (bits .and .u32 (s.C 12) 16 != 0) = true := by rw [and_16 _ (h.ok.c 12), h4]; rfl
    have H4 := Lib.hid h4
    clear h4
    go_enter Try.func24, Try.ntmps24
    go_wp2
    go_ret
    refine ⟨ret_bool ?_, rfl⟩
    unfold userB
    rw [H4.out, and_2 _ (h.ok.c 12)]
    unfold inX
    cases tb (s.C 12) 1 <;> rfl

end
end Go.Proofs.Ytecddcbkgelcmaa
