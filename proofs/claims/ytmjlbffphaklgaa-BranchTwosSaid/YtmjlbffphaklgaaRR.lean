/-
  Chapter 3: the document's own answer: function Right.
-/
import Derived.Test.YtmjlbffphaklgaaFind
namespace Go.Proofs.Ytmjlbffphaklgaa
open Go.RowKit
set_option linter.unusedVariables false

theorem hb_s : ∀ k, k < 78 → hasB (D.fld k) 115 = (D.mS k == 31) := by decide +kernel
theorem hb_t : ∀ k, k < 78 → hasB (D.fld k) 116 = (D.mT k == 31) := by decide +kernel
theorem hb_d : ∀ k, k < 78 → hasB (D.fld k) 100 = (D.mD k == 31) := by decide +kernel
theorem hb_h : ∀ k, k < 78 → hasB (D.fld k) 104 = (D.mH k == 31) := by decide +kernel
theorem hb_i : ∀ k, k < 78 → hasB (D.fld k) 105 = (D.mI k == 65535) := by decide +kernel
theorem hb_j : ∀ k, k < 78 → hasB (D.fld k) 106 = (D.mI k == 67108863) := by decide +kernel
theorem fld_le : ∀ k, k < 78 → (D.fld k).size ≤ 1000 := by decide +kernel
theorem sm_iff (n : Int) (m : Nat) (hm : m = 0 ∨ m = 31) : smB n (m == 31) = decide (0 ≤ n ∧ n ≤ m) := by
  unfold smB
  rw [decide_eq_decide]
  rcases hm with rfl | rfl
  · simp; omega
  · simp; omega

/-- what is asked of a word's fields -/
theorem rg_small {k : Nat} {s t d h i : Int} (h1 : 1 ≤ k) (h2 : k ≤ 77) (i0 : 0 ≤ i) : D.rg k s t d h i = (smB s (hasB (D.fld k) 115) && (smB t (hasB (D.fld k) 116) && (smB d (hasB (D.fld k) 100) && (smB h (hasB (D.fld k) 104) && decide (i ≤ (D.mI k : Int)))))) := by
  rw [hb_s k (by omega), hb_t k (by omega), hb_d k (by omega), hb_h k (by omega), sm_iff _ _ (D.ms k (by omega)), sm_iff _ _ (D.mt k (by omega)), sm_iff _ _ (D.md k (by omega)), sm_iff _ _ (D.mh k (by omega)), Bool.eq_iff_iff]
  simp only [D.rg, decide_eq_true_eq, Bool.and_eq_true, Int.toNat_natCast]
  omega

set_option maxRecDepth 100000 in
set_option maxHeartbeats 4000000 in
theorem rright_in (k : Nat) (s t d h i : Int) (w : World) (h1 : 1 ≤ k) (h2 : k ≤ 77) (i0 : 0 ≤ i) (i1 : i < 4294967296) : Calls Try.prog 24 #[.agg #[.int .i64 ((k : Int)), .int .i64 s, .int .i64 t, .int .i64 d, .int .i64 h, .int .u32 i]] w fun e w' => e = .returned (.bool (D.rg k s t d h i)) ∧ Below w.heap.size w w' := by
  have HR := Lib.hid (rg_small (s := s) (t := t) (d := d) (h := h) h1 h2 i0)
  have hfl := fld_le k (by omega)
  obtain ⟨m, HM⟩ : ∃ m : Int, Hid (m = (D.mI k : Int)) := ⟨_, rfl⟩
  obtain ⟨bi, HBI⟩ : ∃ bi, Hid (hasB (D.fld k) 105 = bi) := ⟨_, rfl⟩
  obtain ⟨bj, HBJ⟩ : ∃ bj, Hid (hasB (D.fld k) 106 = bj) := ⟨_, rfl⟩
  have HC : Hid ((bi = true ∧ m = 65535) ∨ (bi = false ∧ bj = true ∧ m = 67108863) ∨ (bi = false ∧ bj = false ∧ m = 0)) := by
    show _ ∨ _
    rw [HM.out, ← HBI.out, ← HBJ.out, hb_i k (by omega), hb_j k (by omega)]
    have := D.mi k (by omega)
    simp only [beq_iff_eq, beq_eq_false_iff_ne]
    omega
  have e105 := HBI.out
  have e106 := HBJ.out
  rw [← HM.out] at HR
  rcases HC.out with ⟨rfl, rfl⟩ | ⟨rfl, rfl, rfl⟩ | ⟨rfl, rfl, rfl⟩
  all_goals
    clear HC HBI HBJ HM
    cases es : smB s (hasB (D.fld k) 115)
    case' true => cases et : smB t (hasB (D.fld k) 116)
    case' true.true => cases ed : smB d (hasB (D.fld k) 100)
    case' true.true.true => cases eh : smB h (hasB (D.fld k) 104)
    all_goals
      go_enter Try.func24, Try.ntmps24
      go_wp2_with fail
      refine (find_yes k _ h1 h2).mono ?_
      rintro e w1 ⟨rfl, hb1⟩
      obtain ⟨hc, hf⟩ := bcell hb1
      have hz : w.heap.size < w1.heap.size := by have := hb1.size; simp at this; omega
      go_wp2_with (go_at_call 28; refine (has_any _ _ _ hfl).mono ?_; rintro e w2 ⟨rfl, rfl⟩)
      go_quiet (first
        | (go_at_call 28; exact (has_any _ _ _ hfl).mono fun _ _ h => ⟨h.1, _, h.2.symm⟩)
        | (go_at_call 29; exact (small_any _ _ _).mono fun _ _ h => ⟨h.1, _, h.2.symm⟩))
      go_wp2
      go_ret
      have hb5 := band (below_new (w := w)) hb1
      have hz5 := hb5.size
      exact ⟨ret_bool (by rw [HR.out]; simp [*]), by apply below_drewN; (repeat' (first | (with_reducible exact hb5) | (with_reducible apply bel_set) | (with_reducible apply bel_alloc) | (simp [World.setCell]; done) | (simp [World.setCell]; omega) | omega))⟩
set_option maxHeartbeats 1000000 in
theorem rright_out (k s t d h i : Int) (w : World) (hN : Hid (isK k = false)) : Calls Try.prog 24 #[.agg #[.int .i64 k, .int .i64 s, .int .i64 t, .int .i64 d, .int .i64 h, .int .u32 i]] w fun e w' => e = .returned (.bool false) ∧ Below w.heap.size w w' := by
  go_enter Try.func24, Try.ntmps24
  go_wp2_with fail
  refine (find_no k _ hN).mono ?_
  rintro e w1 ⟨rfl, hb1⟩
  go_wp2
  go_ret
  have hb5 := band (below_new (w := w)) hb1
  have hz5 := hb5.size
  exact ⟨rfl, by (repeat' (first | (with_reducible exact hb5) | (with_reducible apply bel_set) | (with_reducible apply bel_alloc) | (simp [World.setCell]; done) | (simp [World.setCell]; omega) | omega))⟩
theorem rright_any (k s t d h i : Int) (w : World) (hr : Hid (InR k s t d h i)) : Calls Try.prog 24 #[.agg #[.int .i64 k, .int .i64 s, .int .i64 t, .int .i64 d, .int .i64 h, .int .u32 i]] w fun e w' => e = .returned (.bool (D.rg k s t d h i)) ∧ Below w.heap.size w w' := by
  cases hk : isK k
  · have e : D.rg k s t d h i = false := by simp only [isK, decide_eq_false_iff_not] at hk; simp only [D.rg, decide_eq_false_iff_not]; omega
    rw [e]
    exact rright_out k s t d h i w hk
  · have hK : 0 < k ∧ k < 78 := by simpa [isK] using hk
    obtain ⟨K, rfl⟩ := Int.eq_ofNat_of_zero_le (show 0 ≤ k by omega)
    exact rright_in K s t d h i w (by omega) (by omega) hr.out.i0 hr.out.i1
end Go.Proofs.Ytmjlbffphaklgaa
