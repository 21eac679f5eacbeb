/-
  Chapter 6: the document's own functions (pianolaref6), each on any State: what it returns, what the State holds behind it: the same words as package cp0's.
-/
import Derived.Test.YtjadjfcdgnmomaaC0
namespace Go.Proofs.Ytjadjfcdgnmomaa
open Go.RowKit
set_option linter.unusedVariables false
theorem setC_over (s : St) (p a b c : Int) : ((((s.setC 14 p).setC 13 a).setC 14 b).setC 13 c) = (s.setC 14 b).setC 13 c := by
  simp only [St.setC]
  congr 1
  funext j
  by_cases h : j = 13
  · simp [h]
  · by_cases k : j = 14 <;> simp [h, k]
theorem setC_twice (s : St) (n : Nat) (a b : Int) : (s.setC n a).setC n b = s.setC n b := by
  simp only [St.setC]
  congr 1
  funext j
  by_cases h : j = n <;> simp [h]
/-- a register n is named in api -/
def namedB (n : Int) : Bool := decide ((0 ≤ n ∧ n ≤ 2) ∨ (8 ≤ n ∧ n ≤ 15))
/-- a State with its place alone -/
def placeF : St := (St.zero.setPC 2147484672).setNext 2147484676
theorem placeF_ok : placeF.Ok := { St.zero_ok with pc := ⟨by decide, by decide⟩, nx := ⟨by decide, by decide⟩ }
theorem built_place : Try.prog.built 29 [(3, .int .u32 2147484672), (4, .int .u32 2147484676)] = some placeF.arr := by kernel_rfl
theorem wpList_buildPlace {ops : Array Oper} {rest : List Oper} {a : Act} {w : World} {Q : Exit → Act → World → Prop} {dst : Option Tmp} {ty : TypeId} {pos : String} {aft : Array Edge} (h : wpList Try.prog ops Q rest (a.put dst (.agg placeF.arr)) w) :
    wpList Try.prog ops Q (⟨dst, .build 29 #[(3, .const (.int .u32 2147484672)), (4, .const (.int .u32 2147484676))], ty, pos, aft, none⟩ :: rest) a w :=
  wpList_plain rfl fun K hK => by
    have hr := run_build (P := Try.prog) w 29 #[(3, .int .u32 2147484672), (4, .int .u32 2147484676)] placeF.arr built_place
    unfold Oper.wp execOp
    have e : (#[(3, Operand.const (.int .u32 2147484672)), (4, Operand.const (.int .u32 2147484676))].map fun (x : Nat × Operand) => (x.1, a.eval x.2)) = #[(3, .int .u32 2147484672), (4, .int .u32 2147484676)] := by simp [Act.eval]
    simp only [e, Sem.run_bind, hr, Result.andThen_ok, Sem.run_pure]
    exact hK _ _ h
section
variable {w : World} {g : Nat} {s : St}

set_option maxHeartbeats 400000 in
theorem rfresh_any (w : World) : Calls Try.prog 8 #[] w (RetB (.agg freshF.arr) w) := by
  go_enter Try.func8, Try.ntmps8
  go_wp2_with (with_reducible refine wpList_allocSt ?_)
  intro b1 w1 l1 h1 f1
  go_wp2_with (first | (with_reducible refine wpList_buildPlace ?_) | (with_reducible refine wpList_allocSt ?_))
  intro b2 w2 l2 h2 f2
  go_wp2_with (refine wpList_storeSt rfl rfl h2 placeF_ok ?_)
  intro w2' t2
  have h3 := h1.fr f2 id
  have q1 := h1.lt
  have q2 := f1.size
  have c15 := t2.at_.c15
  have fz3 := t2.at_.frozenAt 54
  have T := t2.setC 15 (by omega) 98304 ⟨by omega, by omega⟩
  have h4 := h3.fr T.fr (show b1 ≠ b2 by omega)
  go_wp2_with (first | (refine wpList_loadSt rfl T.at_ ?_) | (refine wpList_storeSt rfl rfl h4 T.at_.ok ?_))
  intro w4 t4
  go_wp2_with fail
  refine bodyPost_ret (results_st rfl rfl t4.at_) rfl ⟨rfl, Fr.newB ?_⟩
  exact (((f1.new (fun _ x => x.elim)).trans (f2.new (fun _ x => x.elim))).trans (T.fr.new (by rintro k rfl; omega))).trans (t4.fr.new (by rintro k rfl; omega))

set_option maxHeartbeats 400000 in
theorem named_any (n : Int) (w : World) : Calls Try.prog 36 #[.int .i64 n] w fun e w' => e = .returned (.bool (namedB n)) ∧ w = w' := by
  by_cases h0 : 0 ≤ n
  · by_cases h2 : n ≤ 2
    · have h8 : ¬ 8 ≤ n := by omega
      go_enter Try.func36, Try.ntmps36
      go_wp2
      go_ret
      exact ⟨ret_bool (by unfold namedB; rw [eq_comm, decide_eq_true_iff]; omega), rfl⟩
    · by_cases h8 : 8 ≤ n
      · go_enter Try.func36, Try.ntmps36
        go_wp2
        go_ret
        exact ⟨ret_bool (by unfold namedB; rw [decide_eq_decide]; omega), rfl⟩
      · go_enter Try.func36, Try.ntmps36
        go_wp2
        go_ret
        exact ⟨ret_bool (by unfold namedB; rw [eq_comm, decide_eq_false_iff_not]; omega), rfl⟩
  · have h8 : ¬ 8 ≤ n := by omega
    go_enter Try.func36, Try.ntmps36
    go_wp2
    go_ret
    exact ⟨ret_bool (by unfold namedB; rw [eq_comm, decide_eq_false_iff_not]; omega), rfl⟩

set_option maxHeartbeats 400000 in
theorem rread_any (n : Int) (h : StAt w g s) :
    Calls Try.prog 28 #[.pointer (some ⟨g, 0, none⟩), .int .i64 n] w fun e w' => e = .returned (.int .u32 (rdF s n)) ∧ w = w' := by
  have c9 := h.c9
  have o9 := (h.ok.c 9).1
  by_cases h1 : n = 1
  · subst h1
    go_enter Try.func28, Try.ntmps28
    go_wp2_with fail
    go_ret
    exact ⟨rfl, rfl⟩
  · have e1 : (n == 1) = false := by simpa using h1
    cases hb : namedB n
    · have HB := Lib.hid hb
      have z : rdF s n = 0 := by unfold rdF; unfold namedB at hb; simp at hb; rw [if_neg h1, if_neg (by omega)]
      rw [z]
      clear hb z h1
      go_enter Try.func28, Try.ntmps28
      go_wp2_with fail
      refine (named_any n w).mono ?_
      rintro e w' ⟨rfl, rfl⟩
      rw [HB.out]
      go_wp2_with fail
      go_ret
      exact ⟨rfl, rfl⟩
    · have HB := Lib.hid hb
      have hr : (0 ≤ n ∧ n ≤ 2) ∨ (8 ≤ n ∧ n ≤ 15) := by unfold namedB at hb; simpa using hb
      have z : rdF s n = s.C n.toNat := by unfold rdF; rw [if_neg h1, if_pos (by omega)]
      rw [z]
      have n0 : 0 ≤ n := by omega
      have n1 : n < 16 := by omega
      clear hb z h1 hr
      have cn := h.cC n.toNat (by omega)
      go_enter Try.func28, Try.ntmps28
      go_wp2_with fail
      refine (named_any n w).mono ?_
      rintro e w' ⟨rfl, rfl⟩
      rw [HB.out]
      go_wp2_with fail
      go_ret
      exact ⟨rfl, rfl⟩

set_option maxHeartbeats 400000 in
theorem rwrite_any (n v : Int) (h : StAt w g s) (hv : W32 v) :
    Calls Try.prog 27 #[.pointer (some ⟨g, 0, none⟩), .int .i64 n, .int .u32 v] w (RetS (.tuple #[]) w g (wrF s n v)) := by
  by_cases hn : n = 0 ∨ n = 2 ∨ n = 10 ∨ n = 9 ∨ n = 14 ∨ n = 12
  · skip
    have c0 := h.c0
    have f0 := h.frozenAt 39
    have c2 := h.c2
    have f2 := h.frozenAt 41
    have c9 := h.c9
    have f9 := h.frozenAt 48
    have c10 := h.c10
    have f10 := h.frozenAt 49
    have c12 := h.c12
    have f12 := h.frozenAt 51
    have c14 := h.c14
    have f14 := h.frozenAt 53
    rcases hn with rfl | rfl | rfl | rfl | rfl | rfl
    · go_enter Try.func27, Try.ntmps27
      go_wp2
      go_end0
      exact ⟨rfl, (Turned.refl h).setC 0 (by decide) _ (w_and _ _)⟩
    · go_enter Try.func27, Try.ntmps27
      go_wp2
      go_end0
      exact ⟨rfl, (Turned.refl h).setC 2 (by decide) _ (w_and _ _)⟩
    · go_enter Try.func27, Try.ntmps27
      go_wp2
      go_end0
      exact ⟨rfl, (Turned.refl h).setC 10 (by decide) _ (w_and _ _)⟩
    · go_enter Try.func27, Try.ntmps27
      go_wp2
      go_end0
      exact ⟨rfl, (Turned.refl h).setC 9 (by decide) _ (hv)⟩
    · go_enter Try.func27, Try.ntmps27
      go_wp2
      go_end0
      exact ⟨rfl, (Turned.refl h).setC 14 (by decide) _ (hv)⟩
    · go_enter Try.func27, Try.ntmps27
      go_wp2
      go_end0
      exact ⟨rfl, (Turned.refl h).setC 12 (by decide) _ (w_and _ _)⟩
  · by_cases h11 : n = 11
    · subst h11
      clear hn
      have c11 := h.c11
      have f11 := h.frozenAt 50
      have c13 := h.c13
      have f13 := h.frozenAt 52
      go_enter Try.func27, Try.ntmps27
      go_wp2_with fail
      go_region
      go_wp2_with fail
      go_end0
      rw [pu_clear]
      exact ⟨rfl, (((Turned.refl h).setC 11 (by omega) v hv).setC 13 (by omega) _ (w_pu _ _ _)).drew⟩
    · by_cases h13 : n = 13
      · subst h13
        clear hn h11
        have c13 := h.c13
        have f13 := h.frozenAt 52
        go_enter Try.func27, Try.ntmps27
        go_wp2_with fail
        go_region
        go_wp2_with fail
        go_end0
        exact ⟨rfl, ((Turned.refl h).setC 13 (by omega) _ (w_or _ _)).drew⟩
      · have z : wrF s n v = s := by unfold wrF; simp only [if_neg (show ¬ n = 0 by omega), if_neg (show ¬ n = 2 by omega), if_neg (show ¬ n = 10 by omega), if_neg (show ¬ n = 9 by omega), if_neg (show ¬ n = 14 by omega), if_neg h11, if_neg (show ¬ n = 12 by omega), if_neg h13]
        have e0 : (n == 0) = false := by simp; omega
        have e2 : (n == 2) = false := by simp; omega
        have e10 : (n == 10) = false := by simp; omega
        have e9 : (n == 9) = false := by simp; omega
        have e14 : (n == 14) = false := by simp; omega
        have e11 : (n == 11) = false := by simp; omega
        have e12 : (n == 12) = false := by simp; omega
        have e13 : (n == 13) = false := by simp; omega
        rw [z]
        clear hn z h11 h13
        go_enter Try.func27, Try.ntmps27
        go_wp2
        go_end0
        exact ⟨rfl, Turned.refl h⟩

set_option maxHeartbeats 400000 in
theorem ruser_any (h : StAt w g s) :
    Calls Try.prog 29 #[.pointer (some ⟨g, 0, none⟩)] w fun e w' => e = .returned (.bool (userB s)) ∧ w = w' := by
  have c12 := h.c12
  cases h4 : tb (s.C 12) 4
  · have t4 : (bits .and .u32 (s.C 12) 16 != 0) = false := by rw [and_16 _ (h.ok.c 12), h4]; rfl
    have H4 := Lib.hid h4
    clear h4
    go_enter Try.func29, Try.ntmps29
    go_wp2
    go_ret
    exact ⟨ret_bool (by unfold userB; rw [H4.out]; rfl), rfl⟩
  · have t4 : (bits .and .u32 (s.C 12) 16 != 0) = true := by rw [and_16 _ (h.ok.c 12), h4]; rfl
    have H4 := Lib.hid h4
    clear h4
    go_enter Try.func29, Try.ntmps29
    go_wp2
    go_ret
    refine ⟨ret_bool ?_, rfl⟩
    unfold userB
    rw [H4.out, and_2 _ (h.ok.c 12)]
    unfold inX
    cases tb (s.C 12) 1 <;> rfl

set_option maxHeartbeats 400000 in
theorem rpending_any (h : StAt w g s) :
    Calls Try.prog 31 #[.pointer (some ⟨g, 0, none⟩)] w (Dr (.bool (pendB s)) w) := by
  have c12 := h.c12
  have c13 := h.c13
  go_enter Try.func31, Try.ntmps31
  go_wp2_with fail
  go_quiet (fail)
  go_wp2_with fail
  go_ret
  exact ⟨rfl, _, rfl⟩
set_option maxHeartbeats 400000 in
theorem rtaken_any (h : StAt w g s) :
    Calls Try.prog 32 #[.pointer (some ⟨g, 0, none⟩)] w (Dr (.bool (takenB s)) w) := by
  have c12 := h.c12
  cases hp : pendB s
  all_goals
    go_enter Try.func32, Try.ntmps32
    go_wp2_with fail
    refine (rpending_any h).mono ?_
    rintro e w3 ⟨rfl, n, rfl⟩
    rw [hp]
    go_wp2_with fail
    go_ret
    refine ⟨ret_bool ?_, n, rfl⟩
    unfold takenB
    rw [hp]
    first | rfl | (rw [ie_prog s h.ok]; rfl)

set_option maxHeartbeats 400000 in
theorem rbad_any (va : Int) (table : Bool) (h : StAt w g s) (hv : W32 va) :
    Calls Try.prog 22 #[.pointer (some ⟨g, 0, none⟩), .int .u32 va, .bool table] w (RetS (.tuple #[]) w g (badF s va table)) := by
  have c8 := h.c8
  have f8 := h.frozenAt 47
  cases table
  · go_enter Try.func22, Try.ntmps22
    go_wp2
    go_end0
    exact ⟨rfl, (Turned.refl h).setC 8 (by omega) va hv⟩
  · have c10 := h.c10
    have f10 := h.frozenAt 49
    go_enter Try.func22, Try.ntmps22
    go_wp2_with fail
    go_region
    go_wp2_with fail
    go_end0
    rw [pu_hi]
    exact ⟨rfl, (((Turned.refl h).setC 8 (by omega) va hv).setC 10 (by omega) _ (w_pu _ _ _)).drew⟩

set_option maxHeartbeats 400000 in
theorem rreturn_any (h : StAt w g s) :
    Calls Try.prog 23 #[.pointer (some ⟨g, 0, none⟩)] w (RetS (.tuple #[]) w g (retF s)) := by
  have c14 := h.c14
  have c12 := h.c12
  have cp := h.cPC
  have cn := h.cNext
  have cs := h.cSlot
  have cl := h.cLink
  have fp := h.frozenAt 34
  have fn := h.frozenAt 35
  have fs := h.frozenAt 36
  have fl := h.frozenAt 37
  have f12 := h.frozenAt 51
  go_enter Try.func23, Try.ntmps23
  go_wp2_with fail
  go_region
  go_wp2_with fail
  go_end0
  rw [pu_clear]
  exact ⟨rfl, ((((((Turned.refl h).setPC (s.C 14) (h.ok.c 14)).setNext _ (w_mod _)).setSlot false).setLink false).setC 12 (by omega) _ (w_pu _ _ _)).drew⟩

set_option maxHeartbeats 400000 in
theorem rmissing_any (h : StAt w g s) :
    Calls Try.prog 35 #[.pointer (some ⟨g, 0, none⟩)] w (Dr (.int .i64 (missI s)) w) := by
  have c9 := h.c9
  have c11 := h.c11
  by_cases hd : (s.C 11 - s.C 9) % 4294967296 = 0
  · have HM := Lib.hid (show missI s = 4294967296 by unfold missI; rw [if_pos hd])
    have e0 : ((s.C 11 - s.C 9) % 4294967296 == 0) = true := by rw [hd]; rfl
    clear hd
    go_enter Try.func35, Try.ntmps35
    go_wp2_with fail
    go_quiet (fail)
    go_wp2_with fail
    go_ret
    exact ⟨ret_int HM.out.symm, _, rfl⟩
  · have HM := Lib.hid (show missI s = (s.C 11 - s.C 9) % 4294967296 by unfold missI; rw [if_neg hd])
    have e0 : ((s.C 11 - s.C 9) % 4294967296 == 0) = false := by simpa using hd
    clear hd
    go_enter Try.func35, Try.ntmps35
    go_wp2_with fail
    go_quiet (fail)
    go_wp2_with fail
    go_ret
    exact ⟨ret_int HM.out.symm, _, rfl⟩

set_option maxHeartbeats 400000 in
theorem rgo_any (n : Int) (h : StAt w g s) (n0 : -9223372036854775808 ≤ n) (n1 : n < 9223372036854775808) :
    Calls Try.prog 24 #[.pointer (some ⟨g, 0, none⟩), .int .i64 n] w (RetS (.bool (goB s n)) w g (goF s n)) := by
  have c9 := h.c9
  have c13 := h.c13
  have ct := h.cTime
  have f9 := h.frozenAt 48
  have f13 := h.frozenAt 52
  have ft := h.frozenAt 72
  by_cases hn : n < 1
  · go_enter Try.func24, Try.ntmps24
    go_wp2_with fail
    go_ret
    exact ⟨ret_bool (by unfold goB; rw [eq_comm, decide_eq_false_iff_not]; omega), (Turned.refl h).to (by unfold goF; rw [if_pos hn])⟩
  · by_cases hm : missI s ≤ n
    · go_enter Try.func24, Try.ntmps24
      go_wp2_with fail
      refine (rmissing_any h).mono ?_
      rintro e w2 ⟨rfl, nq, rfl⟩
      go_wp2_with fail
      go_region
      have T := ((((Turned.refl h).drewN nq).setTime (wrap64 (s.Time + n)) (w_64 _)).setC 9 (by omega) ((s.C 9 + n) % 4294967296) (w_mod _)).drew
      go_wp2_with fail
      go_region
      go_wp2_with fail
      go_ret
      rw [pu_set]
      refine ⟨ret_bool (by unfold goB; first | (rw [eq_comm, decide_eq_true_iff]; omega) | (rw [decide_eq_decide]; omega)), ((T.setC 13 (by omega) _ (w_pu _ _ _)).drew).to ?_⟩
      unfold goF
      rw [if_neg (by omega), if_pos (by omega)]
      rfl
    · go_enter Try.func24, Try.ntmps24
      go_wp2_with fail
      refine (rmissing_any h).mono ?_
      rintro e w2 ⟨rfl, nq, rfl⟩
      go_wp2_with fail
      go_region
      have T := ((((Turned.refl h).drewN nq).setTime (wrap64 (s.Time + n)) (w_64 _)).setC 9 (by omega) ((s.C 9 + n) % 4294967296) (w_mod _)).drew
      go_wp2_with fail
      go_ret
      refine ⟨ret_bool (by unfold goB; first | (rw [eq_comm, decide_eq_false_iff_not]; omega) | (rw [decide_eq_decide]; omega)), T.to ?_⟩
      unfold goF
      rw [if_neg (by omega), if_neg (by omega)]
      rfl

set_option maxHeartbeats 400000 in
theorem rline_any (up : Bool) (h : StAt w g s) :
    Calls Try.prog 26 #[.pointer (some ⟨g, 0, none⟩), .bool up] w (RetS (.tuple #[]) w g (lineF s up)) := by
  have c13 := h.c13
  have f13 := h.frozenAt 52
  cases up
  · go_enter Try.func26, Try.ntmps26
    go_wp2_with fail
    go_region
    go_wp2_with fail
    go_end0
    rw [pu_clear]
    exact ⟨rfl, ((Turned.refl h).setC 13 (by omega) _ (w_pu _ _ _)).drew⟩
  · go_enter Try.func26, Try.ntmps26
    go_wp2_with fail
    go_region
    rw [pu_clear]
    have T := ((Turned.refl h).setC 13 (by omega) (pu (s.C 13) 1024 0) (w_pu _ _ _)).drew
    have c13' : ((w.setCell ⟨g, 52, none⟩ (.int .u32 (pu (s.C 13) 1024 0))).drew).cell? ⟨g, 52, none⟩ = some (.int .u32 (pu (s.C 13) 1024 0)) := T.at_.c13
    have f13' : ((w.setCell ⟨g, 52, none⟩ (.int .u32 (pu (s.C 13) 1024 0))).drew).frozen? ⟨g, 52, none⟩ = false := T.at_.frozenAt 52
    have T' : Turned w (w.setCell ⟨g, 52, none⟩ (.int .u32 (pu (s.C 13) 1024 0))).drew g (s.setC 13 (pu (s.C 13) 1024 0)) := T
    clear T
    generalize (w.setCell ⟨g, 52, none⟩ (.int .u32 (pu (s.C 13) 1024 0))).drew = W1 at T' c13' f13' ⊢
    go_wp2_with fail
    go_region
    go_wp2_with fail
    go_end0
    rw [pu_set2]
    refine ⟨rfl, ((T'.setC 13 (by omega) _ (w_pu _ _ _)).drew).to ?_⟩
    rw [setC_twice]
    rfl

end
end Go.Proofs.Ytjadjfcdgnmomaa
