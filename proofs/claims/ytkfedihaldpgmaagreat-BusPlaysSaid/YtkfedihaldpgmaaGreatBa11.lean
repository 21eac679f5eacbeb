/-
  Chapter 11, from chapter 9's text: as a part of the document's bus: Arm of the document's wheel.
-/
import Derived.Test.YtkfedihaldpgmaaGreatBf11
import Derived.Test.YtkfedihaldpgmaaGreatWa9
namespace Go.Proofs.YtkfedihaldpgmaaGreat
open Go.RowKit
set_option linter.unusedVariables false
set_option linter.unusedSimpArgs false
section
variable {C : Nat → Value} {w : World} {g : Nat} {v : Value} {L : List Ev} {a : Int}
theorem Ow.cases9 (h : Ow w v L) : (v = .slice none 0 0 ∧ L = []) ∨ ∃ b c, v = .slice (some ⟨b, 0, none⟩) L.length c ∧ L.length ≤ c ∧ c ≤ 9223372036854775808 := by
  rcases h.2 with ⟨rfl, hn⟩ | ⟨g, cap, cur, rfl, _, _, hc, hm, _⟩
  · exact .inl ⟨rfl, List.eq_nil_of_length_eq_zero hn⟩
  · exact .inr ⟨_, _, rfl, hc, by unfold maxLen at hm; omega⟩
/-- append to a slice in new memory -/
theorem app_new {w1 W : World} {vx x : Value} {Lx M : List Ev} (hF : Fr (fun k => w1.heap.size ≤ k) w1 W) (hO : Ow W vx Lx) (hn : ∀ k, vx.ownBlock = some k → w1.heap.size ≤ k) (hx : Sh W x M) (hb : Lx.length + M.length ≤ 1000000) :
    ∃ v' W', (Builtin.append_ #[46, 46] 46 #[vx, x]).run Tryz.prog W = .ok v' W' ∧ Ow W' v' (Lx ++ M) ∧ Fr (fun k => w1.heap.size ≤ k) w1 W' ∧ (∀ k, v'.ownBlock = some k → w1.heap.size ≤ k) ∧ Fr (fun k => vx.ownBlock = some k) W W' := by
  obtain ⟨v', W', r, O, F, N⟩ := run_append_ev 46 hO hx hb
  refine ⟨v', W', r, O, hF.trans (F.mono fun k e => hn k e), fun k hk => ?_, F⟩
  rcases N with e | e
  · rw [e] at hk; exact hn k hk
  · rw [e] at hk; cases hk; exact hF.size
theorem Sh.one (W : World) (x : Ev) : Sh (W.alloc (.cells #[.int .i64 x.t, .int .i64 x.d, .int .i64 x.s] 84)) (.slice (some ⟨W.heap.size, 0, none⟩) 1 1) [x] :=
  .inr ⟨_, 0, 1, rfl, fun j u hu => by rw [Nat.zero_add, (Rw.ev W x).cell]; exact hu⟩

set_option maxHeartbeats 8000000 in
set_option maxRecDepth 100000 in
theorem rarm_yes (d t : Int) (h : Wb C w g v L a) (hl : L.length ≤ 990000) (ha : 0 ≤ a ∧ a ≤ 1000000) (d0 : 0 ≤ d) (d1 : d < 16) (t0 : 0 ≤ t) :
    Calls Tryz.prog 78 #[.pointer (some ⟨g, 1, none⟩), .int .i64 d, .int .i64 t] w (RetX C (.bool true) w g v (armF d t a L) (a + 1)) := by
  obtain ⟨a0, a1⟩ := ha
  obtain ⟨M, HMd⟩ : ∃ M, Hid (delF d L = M) := ⟨_, rfl⟩
  have hM : M.length ≤ 990000 := by rw [← HMd.out]; have := delF_len d L; omega
  have HAF : Hid (armF d t a L = insF M (ixA t M) ⟨t, d, a⟩) := by show _ = _; unfold armF; rw [HMd.out]
  go_enter Tryz.func78, Tryz.ntmps78
  go_wp2_with fail
  refine (rcancel_any d h (by omega)).mono ?_
  rintro e w1 ⟨rfl, v1, h1, hch⟩
  rw [HMd.out] at h1
  have c0 := h1.c0
  have c1 := h1.c1
  have hgl := h1.st.lt
  have hgn : ¬ w1.heap.size ≤ g := by omega
  have hev := h1.ev
  have HE := Lib.hid (hev.cases9)
  obtain ⟨A, c, rfl, hc, hcm, hz, hA⟩ := hev.form
  have HA0 := Lib.hid hA
  clear hA hz h HMd
  go_wp2_with fail
  go_loopw [7] (fun i wr => ∃ k : Nat, k ≤ M.length ∧ i = .int .i64 k ∧ w1 = wr ∧ Hid (∀ j (hj : j < M.length), j < k → (M[j]).t ≤ t)) (fun i _ => M.length - (intOf i).toNat)
  case atStart => exact ⟨0, by omega, rfl, rfl, fun j _ hj => by omega⟩
  case round =>
    obtain ⟨k, hk, rfl, rfl, HN⟩ := hrel
    by_cases hgo : ∃ hlt : k < M.length, (M[k]).t ≤ t
    · obtain ⟨hlt, hle⟩ := hgo
      obtain ⟨b, rfl⟩ := HA0.out (by omega)
      obtain ⟨q0, q1, q2⟩ := hev.at hlt
      have HD := Lib.hid hle
      go_wp2
      go_roundw
      case rel =>
        refine ⟨k + 1, by omega, by go_num, by first | rfl | trivial, fun j hj hjk => ?_⟩
        by_cases e : j = k
        · subst e; exact HD.out
        · exact HN.out j hj (by omega)
      case measure => simp [intOf]; omega
    · have HX : Hid (ixA t M = k) := by
        show _ = _
        by_cases hlt : k < M.length
        · exact ixA_hit hlt (by have : ¬ (M[k]).t ≤ t := fun e => hgo ⟨hlt, e⟩; omega) (fun j hj => HN.out j (by omega) hj)
        · rw [ixA_none (fun j hj => HN.out j hj (by omega))]; omega
      rw [HX.out] at HAF
      obtain ⟨M2, HM⟩ : ∃ M2, Hid ([] ++ M.take k ++ [⟨t, d, a⟩] ++ M.drop k = M2) := ⟨_, Lib.hid rfl⟩
      have HA : Hid (armF d t a L = M2) := by show _ = _; rw [HAF.out, ← HM.out]; simp [insF]
      have hS0 : (fun W : World => W.cell? ⟨g, 1, none⟩ = some (.slice A M.length c) ∧ W.cell? ⟨g, 2, none⟩ = some (.int .i64 a)) w1.drew := ⟨c0, c1⟩
      have hkc : (k : Int) ≤ c := by omega
      have hkn : (k : Int) ≤ M.length := by omega
      rcases HE.out with ⟨e1, e2⟩ | ⟨b, c', e1, -, -⟩
      · injection e1 with e1 e3 e4
        subst e1 e4 e2
        obtain rfl : k = 0 := by simpa using hk
        have hx1 : Sh w1 (.slice none 0 0) (List.take 0 ([] : List Ev)) := .inl ⟨0, rfl, rfl⟩
        have hx2 : Sh w1 (.slice none 0 0) (List.drop 0 ([] : List Ev)) := .inl ⟨0, rfl, rfl⟩
        have hxn1 : ∀ k, Value.ownBlock (.slice none 0 0) = some k → ¬ w1.heap.size ≤ k := fun k hk => by cases hk
        have hxn2 := hxn1
        clear hgo HN HE HA0
        go_wp2_with fail
        refine wp_region_T (S := fun W : World => W.cell? ⟨g, 1, none⟩ = some (.slice none 0 0) ∧ W.cell? ⟨g, 2, none⟩ = some (.int .i64 a)) 27 (by kernel_rfl) ?_
        refine wpT_take (i := 0) (v := ?_) rfl (by kernel_rfl) (by kernel_rfl) (by kernel_rfl) (by kernel_rfl) (fun _ _ _ h => h) hS0 (Or.inl ⟨by rfl, fun w hSw => ?_⟩) ?_
        rotate_left
        · obtain ⟨s0, s1⟩ := hSw
          go_simp
          try with_reducible rfl
        simp only [Act.put, List.setIfInBounds_toArray, List.set_cons_zero, List.set_cons_succ]
        refine wpT_take (i := 2) (v := ?_) rfl (by kernel_rfl) (by kernel_rfl) (by kernel_rfl) (by kernel_rfl) (fun _ _ _ h => h) hS0 (Or.inl ⟨by rfl, fun w hSw => ?_⟩) ?_
        rotate_left
        · obtain ⟨s0, s1⟩ := hSw
          go_simp
          try with_reducible rfl
        simp only [Act.put, List.setIfInBounds_toArray, List.set_cons_zero, List.set_cons_succ]
        refine wpT_take (i := 3) (v := ?_) rfl (by kernel_rfl) (by kernel_rfl) (by kernel_rfl) (by kernel_rfl) (fun _ _ _ h => h) hS0 (Or.inl ⟨by rfl, fun w hSw => ?_⟩) ?_
        rotate_left
        · obtain ⟨s0, s1⟩ := hSw
          go_simp
          try with_reducible rfl
        simp only [Act.put, List.setIfInBounds_toArray, List.set_cons_zero, List.set_cons_succ]
        refine wpT_take (i := 4) (v := ?_) rfl (by kernel_rfl) (by kernel_rfl) (by kernel_rfl) (by kernel_rfl) (fun _ _ _ h => h) hS0 (Or.inl ⟨by rfl, fun w hSw => ?_⟩) ?_
        rotate_left
        · obtain ⟨s0, s1⟩ := hSw
          go_simp
          try with_reducible rfl
        simp only [Act.put, List.setIfInBounds_toArray, List.set_cons_zero, List.set_cons_succ]
        refine wpT_take (i := 5) (v := ?_) rfl (by kernel_rfl) (by kernel_rfl) (by kernel_rfl) (by kernel_rfl) (fun _ _ _ h => h) hS0 (Or.inl ⟨by rfl, fun w hSw => ?_⟩) ?_
        rotate_left
        · obtain ⟨s0, s1⟩ := hSw
          go_simp
          try with_reducible rfl
        simp only [Act.put, List.setIfInBounds_toArray, List.set_cons_zero, List.set_cons_succ]
        refine wpT_take (i := 6) (v := ?_) rfl (by kernel_rfl) (by kernel_rfl) (by kernel_rfl) (by kernel_rfl) (fun _ _ _ h => h) hS0 (Or.inl ⟨by rfl, fun w hSw => ?_⟩) ?_
        rotate_left
        · obtain ⟨s0, s1⟩ := hSw
          go_simp
          try with_reducible rfl
        simp only [Act.put, List.setIfInBounds_toArray, List.set_cons_zero, List.set_cons_succ]
        refine wpT_take (i := 7) (v := ?_) rfl (by kernel_rfl) (by kernel_rfl) (by kernel_rfl) (by kernel_rfl) (fun _ _ _ h => h) hS0 (Or.inl ⟨by rfl, fun w hSw => ?_⟩) ?_
        rotate_left
        · obtain ⟨s0, s1⟩ := hSw
          go_simp
          try with_reducible rfl
        simp only [Act.put, List.setIfInBounds_toArray, List.set_cons_zero, List.set_cons_succ]
        refine wpT_take (i := 9) (v := ?_) rfl (by kernel_rfl) (by kernel_rfl) (by kernel_rfl) (by kernel_rfl) (fun _ _ _ h => h) hS0 (Or.inl ⟨by rfl, fun w hSw => ?_⟩) ?_
        rotate_left
        · obtain ⟨s0, s1⟩ := hSw
          go_simp
          try with_reducible rfl
        simp only [Act.put, List.setIfInBounds_toArray, List.set_cons_zero, List.set_cons_succ]
        refine wpT_take (i := 10) (v := ?_) rfl (by kernel_rfl) (by kernel_rfl) (by kernel_rfl) (by kernel_rfl) (fun _ _ _ h => h) hS0 (Or.inl ⟨by rfl, fun w hSw => ?_⟩) ?_
        rotate_left
        · obtain ⟨s0, s1⟩ := hSw
          go_simp
          try with_reducible rfl
        simp only [Act.put, List.setIfInBounds_toArray, List.set_cons_zero, List.set_cons_succ]
        refine wpT_take (i := 11) (v := ?_) rfl (by kernel_rfl) (by kernel_rfl) (by kernel_rfl) (by kernel_rfl) (fun _ _ _ h => h) hS0 (Or.inl ⟨by rfl, fun w hSw => ?_⟩) ?_
        rotate_left
        · obtain ⟨s0, s1⟩ := hSw
          go_simp
          try with_reducible rfl
        simp only [Act.put, List.setIfInBounds_toArray, List.set_cons_zero, List.set_cons_succ]
        refine wpT_take (i := 12) (v := ?_) rfl (by kernel_rfl) (by kernel_rfl) (by kernel_rfl) (by kernel_rfl) (fun _ _ _ h => h) hS0 (Or.inl ⟨by rfl, fun w hSw => ?_⟩) ?_
        rotate_left
        · obtain ⟨s0, s1⟩ := hSw
          go_simp
          try with_reducible rfl
        simp only [Act.put, List.setIfInBounds_toArray, List.set_cons_zero, List.set_cons_succ]
        refine wpT_take (i := 13) (v := ?_) rfl (by kernel_rfl) (by kernel_rfl) (by kernel_rfl) (by kernel_rfl) (fun _ _ _ h => h) hS0 (Or.inl ⟨by rfl, fun w hSw => ?_⟩) ?_
        rotate_left
        · obtain ⟨s0, s1⟩ := hSw
          go_simp
          try with_reducible rfl
        simp only [Act.put, List.setIfInBounds_toArray, List.set_cons_zero, List.set_cons_succ]
        refine wpT_take (i := 14) (v := ?_) rfl (by kernel_rfl) (by kernel_rfl) (by kernel_rfl) (by kernel_rfl) (fun _ _ _ h => h) hS0 (Or.inl ⟨by rfl, fun w hSw => ?_⟩) ?_
        rotate_left
        · obtain ⟨s0, s1⟩ := hSw
          go_simp
          try with_reducible rfl
        simp only [Act.put, List.setIfInBounds_toArray, List.set_cons_zero, List.set_cons_succ]
        refine wpT_take (i := 15) (v := ?_) rfl (by kernel_rfl) (by kernel_rfl) (by kernel_rfl) (by kernel_rfl) (fun _ _ _ h => h) hS0 (Or.inl ⟨by rfl, fun w hSw => ?_⟩) ?_
        rotate_left
        · obtain ⟨s0, s1⟩ := hSw
          go_simp
          try with_reducible rfl
        simp only [Act.put, List.setIfInBounds_toArray, List.set_cons_zero, List.set_cons_succ]
        refine wpT_take (i := 18) (v := ?_) rfl (by kernel_rfl) (by kernel_rfl) (by kernel_rfl) (by kernel_rfl) (fun _ _ _ h => h) hS0 (Or.inl ⟨by rfl, fun w hSw => ?_⟩) ?_
        rotate_left
        · obtain ⟨s0, s1⟩ := hSw
          go_simp
          try with_reducible rfl
        simp only [Act.put, List.setIfInBounds_toArray, List.set_cons_zero, List.set_cons_succ]
        refine wpT_take (i := 19) (v := ?_) rfl (by kernel_rfl) (by kernel_rfl) (by kernel_rfl) (by kernel_rfl) (fun _ _ _ h => h) hS0 (Or.inl ⟨by rfl, fun w hSw => ?_⟩) ?_
        rotate_left
        · obtain ⟨s0, s1⟩ := hSw
          go_simp
          try with_reducible rfl
        simp only [Act.put, List.setIfInBounds_toArray, List.set_cons_zero, List.set_cons_succ]
        refine wpT_take (i := 20) (v := ?_) rfl (by kernel_rfl) (by kernel_rfl) (by kernel_rfl) (by kernel_rfl) (fun _ _ _ h => h) hS0 (Or.inl ⟨by rfl, fun w hSw => ?_⟩) ?_
        rotate_left
        · obtain ⟨s0, s1⟩ := hSw
          go_simp
          try with_reducible rfl
        simp only [Act.put, List.setIfInBounds_toArray, List.set_cons_zero, List.set_cons_succ]
        refine wpT_take (i := 21) (v := ?_) rfl (by kernel_rfl) (by kernel_rfl) (by kernel_rfl) (by kernel_rfl) (fun _ _ _ h => h) hS0 (Or.inl ⟨by rfl, fun w hSw => ?_⟩) ?_
        rotate_left
        · obtain ⟨s0, s1⟩ := hSw
          go_simp
          try with_reducible rfl
        simp only [Act.put, List.setIfInBounds_toArray, List.set_cons_zero, List.set_cons_succ]
        refine wpT_take (i := 22) (v := ?_) rfl (by kernel_rfl) (by kernel_rfl) (by kernel_rfl) (by kernel_rfl) (fun _ _ _ h => h) hS0 (Or.inl ⟨by rfl, fun w hSw => ?_⟩) ?_
        rotate_left
        · obtain ⟨s0, s1⟩ := hSw
          go_simp
          try with_reducible rfl
        simp only [Act.put, List.setIfInBounds_toArray, List.set_cons_zero, List.set_cons_succ]
        refine wpT_take (i := 23) (v := ?_) rfl (by kernel_rfl) (by kernel_rfl) (by kernel_rfl) (by kernel_rfl) (fun _ _ _ h => h) hS0 (Or.inl ⟨by rfl, fun w hSw => ?_⟩) ?_
        rotate_left
        · obtain ⟨s0, s1⟩ := hSw
          go_simp
          try with_reducible rfl
        simp only [Act.put, List.setIfInBounds_toArray, List.set_cons_zero, List.set_cons_succ]
        refine wpT_two (i := 1) (j := 16) (by kernel_rfl) rfl rfl (fun K hK => ?_) (fun K hK => ?_)
        · go_simp
          have hFa : Fr (fun k => w1.heap.size ≤ k) w1 (w1.drew.alloc (.cells #[] 84)) := (Fr.refl _ w1).drew.alloc _
          refine hK.out _ (w1.drew.alloc (.cells #[] 84)) ⟨cell_fr hFa c0 hgn, cell_fr hFa c1 hgn⟩ ?_
          clear hK K
          have Oa : Ow (w1.drew.alloc (.cells #[] 84)) (.slice (some ⟨w1.heap.size, 0, none⟩) 0 0) [] := Ow.empty w1.drew
          have na : ∀ k, Value.ownBlock (.slice (some ⟨w1.heap.size, 0, none⟩) 0 0) = some k → w1.heap.size ≤ k := fun k hk => by cases hk; exact Nat.le_refl _
          refine wpT_two (i := 8) (j := 16) (by kernel_rfl) rfl rfl (fun K hK => ?_) (fun K hK => ?_)
          · obtain ⟨va, Wb, ra, Ob0, hFb0, nb0, Gb0⟩ := app_new hFa Oa na (hx1.fr hFa hxn1) (by first | (simp; done) | (simp; omega))
            refine step_append_go rfl (.tmp 43) (.tmp 49) 46 46 rfl _ _ rfl rfl ra ?_
            simp only [Act.put, List.setIfInBounds_toArray, List.set_cons_zero, List.set_cons_succ]
            refine hK.out _ _ ⟨cell_fr hFb0 c0 hgn, cell_fr hFb0 c1 hgn⟩ ?_
            clear hK K ra
            refine wpT_one (i := 16) (by kernel_rfl) rfl (fun K hK => ?_)
            go_simp
            have hFt : Fr (fun k => w1.heap.size ≤ k) w1 (Wb.alloc (.cells #[.int .i64 t, .int .i64 d, .int .i64 a] 84)) := hFb0.alloc _
            refine hK.out _ (Wb.alloc (.cells #[.int .i64 t, .int .i64 d, .int .i64 a] 84)) ⟨cell_fr hFt c0 hgn, cell_fr hFt c1 hgn⟩ ?_
            clear hK K
            have Ot := Ow.fr Ob0 ((Fr.refl (fun _ => False) Wb).alloc (.cells #[.int .i64 t, .int .i64 d, .int .i64 a] 84)) (fun _ _ => id)
            have nt := nb0
            have hSe := Sh.one Wb ⟨t, d, a⟩
            clear Oa hFa na Gb0 Ob0 nb0 hFb0
            obtain ⟨vb, Wd, rb, Ob, hFb, nb, Gb⟩ := app_new hFt Ot nt hSe (by first | (simp; done) | (simp; omega))
            refine wpT_one (i := 17) (by kernel_rfl) rfl (fun K hK => ?_)
            refine step_append_go rfl (.tmp 50) (.tmp 58) 46 46 rfl _ _ rfl rfl rb ?_
            simp only [Act.put, List.setIfInBounds_toArray, List.set_cons_zero, List.set_cons_succ]
            refine hK.out _ _ ⟨cell_fr hFb c0 hgn, cell_fr hFb c1 hgn⟩ ?_
            clear hK K rb
            obtain ⟨vc, We, rc, Oc, hFc, nc, Gc⟩ := app_new hFb Ob nb (hx2.fr hFb hxn2) (by first | (simp; done) | (simp; omega))
            refine wpT_one (i := 24) (by kernel_rfl) rfl (fun K hK => ?_)
            refine step_append_go rfl (.tmp 59) (.tmp 65) 46 46 rfl _ _ rfl rfl rc ?_
            simp only [Act.put, List.setIfInBounds_toArray, List.set_cons_zero, List.set_cons_succ]
            refine hK.out _ _ ⟨cell_fr hFc c0 hgn, cell_fr hFc c1 hgn⟩ ?_
            clear hK K rc
            rw [HM.out] at Oc
            obtain ⟨A3, c4, rfl, q3, q4, q5, q6⟩ := Oc.form
            clear q3 q4 q5 q6
            have kz : We.frozen? ⟨g, 1, none⟩ = false := (h1.st.of_block (hFc.block _ hgl hgn)).frozen 1
            have kc := cell_fr hFc c0 hgn
            refine wpT_one (i := 25) (by kernel_rfl) rfl (fun K hK => ?_)
            go_simp
            refine hK.out _ _ ⟨cell_fr hFc c0 hgn, cell_fr hFc c1 hgn⟩ ?_
            clear hK K
            refine wpT_one (i := 26) (by kernel_rfl) rfl (fun K hK => ?_)
            go_simp
            refine hK.out _ _ ⟨cell_fr hFc c0 hgn, cell_fr hFc c1 hgn⟩ ?_
            clear hK K
            refine wpT_last (by kernel_rfl) rfl (by kernel_rfl) (fun K hK => ?_)
            go_simp
            refine hK.out _ _ ?_
            clear hK K
            obtain ⟨hw5, hch5⟩ := ref_store h1 hFc Oc nc
            generalize We.setCell ⟨g, 1, none⟩ (.slice A3 M2.length c4) = W5 at hw5 hch5 ⊢
            clear kz kc Oc hFc nc Gc Gb nb Ob hFb hFt Ot nt hSe hS0
            have l1 := hw5.c1
            have lz := hw5.st.frozen 2
            go_wp2
            go_ret
            exact ⟨rfl, _, by rw [HA.out]; exact hw5.setA (a + 1), (hch.trans hch5).trans (Ch.setH _ _ _ _)⟩
          · go_simp
            have hFe : Fr (fun k => w1.heap.size ≤ k) w1 ((w1.drew.alloc (.cells #[] 84)).alloc (.cells #[.int .i64 t, .int .i64 d, .int .i64 a] 84)) := hFa.alloc _
            refine hK.out _ ((w1.drew.alloc (.cells #[] 84)).alloc (.cells #[.int .i64 t, .int .i64 d, .int .i64 a] 84)) ⟨cell_fr hFe c0 hgn, cell_fr hFe c1 hgn⟩ ?_
            clear hK K
            have Oe := Ow.fr Oa ((Fr.refl (fun _ => False) (w1.drew.alloc (.cells #[] 84))).alloc (.cells #[.int .i64 t, .int .i64 d, .int .i64 a] 84)) (fun _ _ => id)
            obtain ⟨va, Wb, ra, Ot, hFt, nt, Gt⟩ := app_new hFe Oe na (hx1.fr hFe hxn1) (by first | (simp; done) | (simp; omega))
            have hSe := Sh.fr (Sh.one (w1.drew.alloc (.cells #[] 84)) ⟨t, d, a⟩) Gt (fun k hk e => by
              have h2 : (w1.drew.alloc (.cells #[] 84)).heap.size = k := Option.some.inj hk
              have h3 : w1.heap.size = k := Option.some.inj e
              rw [show (w1.drew.alloc (.cells #[] 84)).heap.size = w1.heap.size + 1 from Array.size_push ..] at h2
              omega)
            rw [show (w1.drew.alloc (.cells #[] 84)).heap.size = w1.heap.size + 1 from Array.size_push ..] at hSe
            refine wpT_one (i := 8) (by kernel_rfl) rfl (fun K hK => ?_)
            refine step_append_go rfl (.tmp 43) (.tmp 49) 46 46 rfl _ _ rfl rfl ra ?_
            simp only [Act.put, List.setIfInBounds_toArray, List.set_cons_zero, List.set_cons_succ]
            refine hK.out _ _ ⟨cell_fr hFt c0 hgn, cell_fr hFt c1 hgn⟩ ?_
            clear hK K ra Oa hFa na Oe hFe Gt
            obtain ⟨vb, Wd, rb, Ob, hFb, nb, Gb⟩ := app_new hFt Ot nt hSe (by first | (simp; done) | (simp; omega))
            refine wpT_one (i := 17) (by kernel_rfl) rfl (fun K hK => ?_)
            refine step_append_go rfl (.tmp 50) (.tmp 58) 46 46 rfl _ _ rfl rfl rb ?_
            simp only [Act.put, List.setIfInBounds_toArray, List.set_cons_zero, List.set_cons_succ]
            refine hK.out _ _ ⟨cell_fr hFb c0 hgn, cell_fr hFb c1 hgn⟩ ?_
            clear hK K rb
            obtain ⟨vc, We, rc, Oc, hFc, nc, Gc⟩ := app_new hFb Ob nb (hx2.fr hFb hxn2) (by first | (simp; done) | (simp; omega))
            refine wpT_one (i := 24) (by kernel_rfl) rfl (fun K hK => ?_)
            refine step_append_go rfl (.tmp 59) (.tmp 65) 46 46 rfl _ _ rfl rfl rc ?_
            simp only [Act.put, List.setIfInBounds_toArray, List.set_cons_zero, List.set_cons_succ]
            refine hK.out _ _ ⟨cell_fr hFc c0 hgn, cell_fr hFc c1 hgn⟩ ?_
            clear hK K rc
            rw [HM.out] at Oc
            obtain ⟨A3, c4, rfl, q3, q4, q5, q6⟩ := Oc.form
            clear q3 q4 q5 q6
            have kz : We.frozen? ⟨g, 1, none⟩ = false := (h1.st.of_block (hFc.block _ hgl hgn)).frozen 1
            have kc := cell_fr hFc c0 hgn
            refine wpT_one (i := 25) (by kernel_rfl) rfl (fun K hK => ?_)
            go_simp
            refine hK.out _ _ ⟨cell_fr hFc c0 hgn, cell_fr hFc c1 hgn⟩ ?_
            clear hK K
            refine wpT_one (i := 26) (by kernel_rfl) rfl (fun K hK => ?_)
            go_simp
            refine hK.out _ _ ⟨cell_fr hFc c0 hgn, cell_fr hFc c1 hgn⟩ ?_
            clear hK K
            refine wpT_last (by kernel_rfl) rfl (by kernel_rfl) (fun K hK => ?_)
            go_simp
            refine hK.out _ _ ?_
            clear hK K
            obtain ⟨hw5, hch5⟩ := ref_store h1 hFc Oc nc
            generalize We.setCell ⟨g, 1, none⟩ (.slice A3 M2.length c4) = W5 at hw5 hch5 ⊢
            clear kz kc Oc hFc nc Gc Gb nb Ob hFb hFt Ot nt hSe hS0
            have l1 := hw5.c1
            have lz := hw5.st.frozen 2
            go_wp2
            go_ret
            exact ⟨rfl, _, by rw [HA.out]; exact hw5.setA (a + 1), (hch.trans hch5).trans (Ch.setH _ _ _ _)⟩
        · go_simp
          have hFe : Fr (fun k => w1.heap.size ≤ k) w1 (w1.drew.alloc (.cells #[.int .i64 t, .int .i64 d, .int .i64 a] 84)) := (Fr.refl _ w1).drew.alloc _
          refine hK.out _ (w1.drew.alloc (.cells #[.int .i64 t, .int .i64 d, .int .i64 a] 84)) ⟨cell_fr hFe c0 hgn, cell_fr hFe c1 hgn⟩ ?_
          clear hK K
          refine wpT_one (i := 1) (by kernel_rfl) rfl (fun K hK => ?_)
          go_simp
          have hFa : Fr (fun k => w1.heap.size ≤ k) w1 ((w1.drew.alloc (.cells #[.int .i64 t, .int .i64 d, .int .i64 a] 84)).alloc (.cells #[] 84)) := hFe.alloc _
          refine hK.out _ ((w1.drew.alloc (.cells #[.int .i64 t, .int .i64 d, .int .i64 a] 84)).alloc (.cells #[] 84)) ⟨cell_fr hFa c0 hgn, cell_fr hFa c1 hgn⟩ ?_
          clear hK K
          have Oa : Ow ((w1.drew.alloc (.cells #[.int .i64 t, .int .i64 d, .int .i64 a] 84)).alloc (.cells #[] 84)) (.slice (some ⟨w1.heap.size + 1, 0, none⟩) 0 0) [] := by
            have := Ow.empty (w1.drew.alloc (.cells #[.int .i64 t, .int .i64 d, .int .i64 a] 84))
            rw [show (w1.drew.alloc (.cells #[.int .i64 t, .int .i64 d, .int .i64 a] 84)).heap.size = w1.heap.size + 1 from Array.size_push ..] at this
            exact this
          have na : ∀ k, Value.ownBlock (.slice (some ⟨w1.heap.size + 1, 0, none⟩) 0 0) = some k → w1.heap.size ≤ k := fun k hk => by cases hk; show w1.heap.size ≤ w1.heap.size + 1; omega
          obtain ⟨va, Wb, ra, Ot, hFt, nt, Gt⟩ := app_new hFa Oa na (hx1.fr hFa hxn1) (by first | (simp; done) | (simp; omega))
          have hSe := Sh.fr ((Sh.one w1.drew ⟨t, d, a⟩).fr ((Fr.refl (fun _ => False) (w1.drew.alloc (.cells #[.int .i64 t, .int .i64 d, .int .i64 a] 84))).alloc (.cells #[] 84)) (fun _ _ => id)) Gt (fun k hk e => by
            have h2 : w1.heap.size = k := Option.some.inj hk
            have h3 : w1.heap.size + 1 = k := Option.some.inj e
            omega)
          refine wpT_one (i := 8) (by kernel_rfl) rfl (fun K hK => ?_)
          refine step_append_go rfl (.tmp 43) (.tmp 49) 46 46 rfl _ _ rfl rfl ra ?_
          simp only [Act.put, List.setIfInBounds_toArray, List.set_cons_zero, List.set_cons_succ]
          refine hK.out _ _ ⟨cell_fr hFt c0 hgn, cell_fr hFt c1 hgn⟩ ?_
          clear hK K ra Oa hFa na hFe Gt
          obtain ⟨vb, Wd, rb, Ob, hFb, nb, Gb⟩ := app_new hFt Ot nt hSe (by first | (simp; done) | (simp; omega))
          refine wpT_one (i := 17) (by kernel_rfl) rfl (fun K hK => ?_)
          refine step_append_go rfl (.tmp 50) (.tmp 58) 46 46 rfl _ _ rfl rfl rb ?_
          simp only [Act.put, List.setIfInBounds_toArray, List.set_cons_zero, List.set_cons_succ]
          refine hK.out _ _ ⟨cell_fr hFb c0 hgn, cell_fr hFb c1 hgn⟩ ?_
          clear hK K rb
          obtain ⟨vc, We, rc, Oc, hFc, nc, Gc⟩ := app_new hFb Ob nb (hx2.fr hFb hxn2) (by first | (simp; done) | (simp; omega))
          refine wpT_one (i := 24) (by kernel_rfl) rfl (fun K hK => ?_)
          refine step_append_go rfl (.tmp 59) (.tmp 65) 46 46 rfl _ _ rfl rfl rc ?_
          simp only [Act.put, List.setIfInBounds_toArray, List.set_cons_zero, List.set_cons_succ]
          refine hK.out _ _ ⟨cell_fr hFc c0 hgn, cell_fr hFc c1 hgn⟩ ?_
          clear hK K rc
          rw [HM.out] at Oc
          obtain ⟨A3, c4, rfl, q3, q4, q5, q6⟩ := Oc.form
          clear q3 q4 q5 q6
          have kz : We.frozen? ⟨g, 1, none⟩ = false := (h1.st.of_block (hFc.block _ hgl hgn)).frozen 1
          have kc := cell_fr hFc c0 hgn
          refine wpT_one (i := 25) (by kernel_rfl) rfl (fun K hK => ?_)
          go_simp
          refine hK.out _ _ ⟨cell_fr hFc c0 hgn, cell_fr hFc c1 hgn⟩ ?_
          clear hK K
          refine wpT_one (i := 26) (by kernel_rfl) rfl (fun K hK => ?_)
          go_simp
          refine hK.out _ _ ⟨cell_fr hFc c0 hgn, cell_fr hFc c1 hgn⟩ ?_
          clear hK K
          refine wpT_last (by kernel_rfl) rfl (by kernel_rfl) (fun K hK => ?_)
          go_simp
          refine hK.out _ _ ?_
          clear hK K
          obtain ⟨hw5, hch5⟩ := ref_store h1 hFc Oc nc
          generalize We.setCell ⟨g, 1, none⟩ (.slice A3 M2.length c4) = W5 at hw5 hch5 ⊢
          clear kz kc Oc hFc nc Gc Gb nb Ob hFb hFt Ot nt hSe hS0
          have l1 := hw5.c1
          have lz := hw5.st.frozen 2
          go_wp2
          go_ret
          exact ⟨rfl, _, by rw [HA.out]; exact hw5.setA (a + 1), (hch.trans hch5).trans (Ch.setH _ _ _ _)⟩
      · injection e1 with e1 e3 e4
        subst e1
        clear e3 e4
        have hb : b < w1.heap.size := hev.lt b rfl
        have hx1 : Sh w1 (.slice (some ⟨b, 0, none⟩) k c) (M.take k) := Sh.take hev k hk
        have hxn1 : ∀ k2, Value.ownBlock (.slice (some ⟨b, 0, none⟩) k c) = some k2 → ¬ w1.heap.size ≤ k2 := fun k2 h2 => by cases h2; show ¬ w1.heap.size ≤ b; omega
        obtain ⟨o3, c3, ho3, hc3, hx2⟩ : ∃ o3 c3, (if c = k then some (⟨b, 0, none⟩ : Addr) else some ⟨b, k * 3, none⟩) = some ⟨b, o3, none⟩ ∧ c - k = c3 ∧ Sh w1 (.slice (some ⟨b, o3, none⟩) (M.length - k) c3) (M.drop k) := by
          by_cases e : c = k
          · exact ⟨0, _, by rw [if_pos e], rfl, Sh.drop hev k _ hk (fun _ => by omega)⟩
          · exact ⟨_, _, by rw [if_neg e], rfl, Sh.drop hev k _ hk (fun _ => rfl)⟩
        have hxn2 : ∀ k2, Value.ownBlock (.slice (some ⟨b, o3, none⟩) (M.length - k) c3) = some k2 → ¬ w1.heap.size ≤ k2 := fun k2 h2 => by cases h2; show ¬ w1.heap.size ≤ b; omega
        clear HE HA0 HN
        by_cases hlt : k < M.length
        · obtain ⟨q0, q1, q2⟩ := hev.at hlt
          have hgt : decide ((M[k]).t ≤ t) = false := decide_eq_false (fun e => hgo ⟨hlt, e⟩)
          clear hgo
          go_wp2_with fail
          clear q0 q1 q2 hgt
          refine wp_region_T (S := fun W : World => W.cell? ⟨g, 1, none⟩ = some (.slice (some ⟨b, 0, none⟩) M.length c) ∧ W.cell? ⟨g, 2, none⟩ = some (.int .i64 a)) 27 (by kernel_rfl) ?_
          refine wpT_take (i := 0) (v := ?_) rfl (by kernel_rfl) (by kernel_rfl) (by kernel_rfl) (by kernel_rfl) (fun _ _ _ h => h) hS0 (Or.inl ⟨by rfl, fun w hSw => ?_⟩) ?_
          rotate_left
          · obtain ⟨s0, s1⟩ := hSw
            go_simp
            try with_reducible rfl
          simp only [Act.put, List.setIfInBounds_toArray, List.set_cons_zero, List.set_cons_succ]
          refine wpT_take (i := 2) (v := ?_) rfl (by kernel_rfl) (by kernel_rfl) (by kernel_rfl) (by kernel_rfl) (fun _ _ _ h => h) hS0 (Or.inl ⟨by rfl, fun w hSw => ?_⟩) ?_
          rotate_left
          · obtain ⟨s0, s1⟩ := hSw
            go_simp
            try with_reducible rfl
          simp only [Act.put, List.setIfInBounds_toArray, List.set_cons_zero, List.set_cons_succ]
          refine wpT_take (i := 3) (v := ?_) rfl (by kernel_rfl) (by kernel_rfl) (by kernel_rfl) (by kernel_rfl) (fun _ _ _ h => h) hS0 (Or.inl ⟨by rfl, fun w hSw => ?_⟩) ?_
          rotate_left
          · obtain ⟨s0, s1⟩ := hSw
            go_simp
            try with_reducible rfl
          simp only [Act.put, List.setIfInBounds_toArray, List.set_cons_zero, List.set_cons_succ]
          refine wpT_take (i := 4) (v := ?_) rfl (by kernel_rfl) (by kernel_rfl) (by kernel_rfl) (by kernel_rfl) (fun _ _ _ h => h) hS0 (Or.inl ⟨by rfl, fun w hSw => ?_⟩) ?_
          rotate_left
          · obtain ⟨s0, s1⟩ := hSw
            go_simp
            try with_reducible rfl
          simp only [Act.put, List.setIfInBounds_toArray, List.set_cons_zero, List.set_cons_succ]
          refine wpT_take (i := 5) (v := ?_) rfl (by kernel_rfl) (by kernel_rfl) (by kernel_rfl) (by kernel_rfl) (fun _ _ _ h => h) hS0 (Or.inl ⟨by rfl, fun w hSw => ?_⟩) ?_
          rotate_left
          · obtain ⟨s0, s1⟩ := hSw
            go_simp
            try with_reducible rfl
          simp only [Act.put, List.setIfInBounds_toArray, List.set_cons_zero, List.set_cons_succ]
          refine wpT_take (i := 6) (v := ?_) rfl (by kernel_rfl) (by kernel_rfl) (by kernel_rfl) (by kernel_rfl) (fun _ _ _ h => h) hS0 (Or.inl ⟨by rfl, fun w hSw => ?_⟩) ?_
          rotate_left
          · obtain ⟨s0, s1⟩ := hSw
            go_simp
            try with_reducible rfl
          simp only [Act.put, List.setIfInBounds_toArray, List.set_cons_zero, List.set_cons_succ]
          refine wpT_take (i := 7) (v := ?_) rfl (by kernel_rfl) (by kernel_rfl) (by kernel_rfl) (by kernel_rfl) (fun _ _ _ h => h) hS0 (Or.inl ⟨by rfl, fun w hSw => ?_⟩) ?_
          rotate_left
          · obtain ⟨s0, s1⟩ := hSw
            go_simp
            try with_reducible rfl
          simp only [Act.put, List.setIfInBounds_toArray, List.set_cons_zero, List.set_cons_succ]
          refine wpT_take (i := 9) (v := ?_) rfl (by kernel_rfl) (by kernel_rfl) (by kernel_rfl) (by kernel_rfl) (fun _ _ _ h => h) hS0 (Or.inl ⟨by rfl, fun w hSw => ?_⟩) ?_
          rotate_left
          · obtain ⟨s0, s1⟩ := hSw
            go_simp
            try with_reducible rfl
          simp only [Act.put, List.setIfInBounds_toArray, List.set_cons_zero, List.set_cons_succ]
          refine wpT_take (i := 10) (v := ?_) rfl (by kernel_rfl) (by kernel_rfl) (by kernel_rfl) (by kernel_rfl) (fun _ _ _ h => h) hS0 (Or.inl ⟨by rfl, fun w hSw => ?_⟩) ?_
          rotate_left
          · obtain ⟨s0, s1⟩ := hSw
            go_simp
            try with_reducible rfl
          simp only [Act.put, List.setIfInBounds_toArray, List.set_cons_zero, List.set_cons_succ]
          refine wpT_take (i := 11) (v := ?_) rfl (by kernel_rfl) (by kernel_rfl) (by kernel_rfl) (by kernel_rfl) (fun _ _ _ h => h) hS0 (Or.inl ⟨by rfl, fun w hSw => ?_⟩) ?_
          rotate_left
          · obtain ⟨s0, s1⟩ := hSw
            go_simp
            try with_reducible rfl
          simp only [Act.put, List.setIfInBounds_toArray, List.set_cons_zero, List.set_cons_succ]
          refine wpT_take (i := 12) (v := ?_) rfl (by kernel_rfl) (by kernel_rfl) (by kernel_rfl) (by kernel_rfl) (fun _ _ _ h => h) hS0 (Or.inl ⟨by rfl, fun w hSw => ?_⟩) ?_
          rotate_left
          · obtain ⟨s0, s1⟩ := hSw
            go_simp
            try with_reducible rfl
          simp only [Act.put, List.setIfInBounds_toArray, List.set_cons_zero, List.set_cons_succ]
          refine wpT_take (i := 13) (v := ?_) rfl (by kernel_rfl) (by kernel_rfl) (by kernel_rfl) (by kernel_rfl) (fun _ _ _ h => h) hS0 (Or.inl ⟨by rfl, fun w hSw => ?_⟩) ?_
          rotate_left
          · obtain ⟨s0, s1⟩ := hSw
            go_simp
            try with_reducible rfl
          simp only [Act.put, List.setIfInBounds_toArray, List.set_cons_zero, List.set_cons_succ]
          refine wpT_take (i := 14) (v := ?_) rfl (by kernel_rfl) (by kernel_rfl) (by kernel_rfl) (by kernel_rfl) (fun _ _ _ h => h) hS0 (Or.inl ⟨by rfl, fun w hSw => ?_⟩) ?_
          rotate_left
          · obtain ⟨s0, s1⟩ := hSw
            go_simp
            try with_reducible rfl
          simp only [Act.put, List.setIfInBounds_toArray, List.set_cons_zero, List.set_cons_succ]
          refine wpT_take (i := 15) (v := ?_) rfl (by kernel_rfl) (by kernel_rfl) (by kernel_rfl) (by kernel_rfl) (fun _ _ _ h => h) hS0 (Or.inl ⟨by rfl, fun w hSw => ?_⟩) ?_
          rotate_left
          · obtain ⟨s0, s1⟩ := hSw
            go_simp
            try with_reducible rfl
          simp only [Act.put, List.setIfInBounds_toArray, List.set_cons_zero, List.set_cons_succ]
          refine wpT_take (i := 18) (v := ?_) rfl (by kernel_rfl) (by kernel_rfl) (by kernel_rfl) (by kernel_rfl) (fun _ _ _ h => h) hS0 (Or.inl ⟨by rfl, fun w hSw => ?_⟩) ?_
          rotate_left
          · obtain ⟨s0, s1⟩ := hSw
            go_simp
            try with_reducible rfl
          simp only [Act.put, List.setIfInBounds_toArray, List.set_cons_zero, List.set_cons_succ]
          refine wpT_take (i := 19) (v := ?_) rfl (by kernel_rfl) (by kernel_rfl) (by kernel_rfl) (by kernel_rfl) (fun _ _ _ h => h) hS0 (Or.inl ⟨by rfl, fun w hSw => ?_⟩) ?_
          rotate_left
          · obtain ⟨s0, s1⟩ := hSw
            go_simp
            try with_reducible rfl
          simp only [Act.put, List.setIfInBounds_toArray, List.set_cons_zero, List.set_cons_succ]
          refine wpT_take (i := 20) (v := ?_) rfl (by kernel_rfl) (by kernel_rfl) (by kernel_rfl) (by kernel_rfl) (fun _ _ _ h => h) hS0 (Or.inl ⟨by rfl, fun w hSw => ?_⟩) ?_
          rotate_left
          · obtain ⟨s0, s1⟩ := hSw
            go_simp
            try with_reducible rfl
          simp only [Act.put, List.setIfInBounds_toArray, List.set_cons_zero, List.set_cons_succ]
          refine wpT_take (i := 21) (v := ?_) rfl (by kernel_rfl) (by kernel_rfl) (by kernel_rfl) (by kernel_rfl) (fun _ _ _ h => h) hS0 (Or.inl ⟨by rfl, fun w hSw => ?_⟩) ?_
          rotate_left
          · obtain ⟨s0, s1⟩ := hSw
            go_simp
            try with_reducible rfl
          simp only [Act.put, List.setIfInBounds_toArray, List.set_cons_zero, List.set_cons_succ]
          refine wpT_take (i := 22) (v := ?_) rfl (by kernel_rfl) (by kernel_rfl) (by kernel_rfl) (by kernel_rfl) (fun _ _ _ h => h) hS0 (Or.inl ⟨by rfl, fun w hSw => ?_⟩) ?_
          rotate_left
          · obtain ⟨s0, s1⟩ := hSw
            go_simp
            try with_reducible rfl
          simp only [Act.put, List.setIfInBounds_toArray, List.set_cons_zero, List.set_cons_succ]
          refine wpT_take (i := 23) (v := ?_) rfl (by kernel_rfl) (by kernel_rfl) (by kernel_rfl) (by kernel_rfl) (fun _ _ _ h => h) hS0 (Or.inl ⟨by rfl, fun w hSw => ?_⟩) ?_
          rotate_left
          · obtain ⟨s0, s1⟩ := hSw
            go_simp
            try with_reducible rfl
          simp only [Act.put, List.setIfInBounds_toArray, List.set_cons_zero, List.set_cons_succ]
          clear ho3 hc3
          refine wpT_two (i := 1) (j := 16) (by kernel_rfl) rfl rfl (fun K hK => ?_) (fun K hK => ?_)
          · go_simp
            have hFa : Fr (fun k => w1.heap.size ≤ k) w1 (w1.drew.alloc (.cells #[] 84)) := (Fr.refl _ w1).drew.alloc _
            refine hK.out _ (w1.drew.alloc (.cells #[] 84)) ⟨cell_fr hFa c0 hgn, cell_fr hFa c1 hgn⟩ ?_
            clear hK K
            have Oa : Ow (w1.drew.alloc (.cells #[] 84)) (.slice (some ⟨w1.heap.size, 0, none⟩) 0 0) [] := Ow.empty w1.drew
            have na : ∀ k, Value.ownBlock (.slice (some ⟨w1.heap.size, 0, none⟩) 0 0) = some k → w1.heap.size ≤ k := fun k hk => by cases hk; exact Nat.le_refl _
            refine wpT_two (i := 8) (j := 16) (by kernel_rfl) rfl rfl (fun K hK => ?_) (fun K hK => ?_)
            · obtain ⟨va, Wb, ra, Ob0, hFb0, nb0, Gb0⟩ := app_new hFa Oa na (hx1.fr hFa hxn1) (by first | (simp; done) | (simp; omega))
              refine step_append_go rfl (.tmp 43) (.tmp 49) 46 46 rfl _ _ rfl rfl ra ?_
              simp only [Act.put, List.setIfInBounds_toArray, List.set_cons_zero, List.set_cons_succ]
              refine hK.out _ _ ⟨cell_fr hFb0 c0 hgn, cell_fr hFb0 c1 hgn⟩ ?_
              clear hK K ra
              refine wpT_one (i := 16) (by kernel_rfl) rfl (fun K hK => ?_)
              go_simp
              have hFt : Fr (fun k => w1.heap.size ≤ k) w1 (Wb.alloc (.cells #[.int .i64 t, .int .i64 d, .int .i64 a] 84)) := hFb0.alloc _
              refine hK.out _ (Wb.alloc (.cells #[.int .i64 t, .int .i64 d, .int .i64 a] 84)) ⟨cell_fr hFt c0 hgn, cell_fr hFt c1 hgn⟩ ?_
              clear hK K
              have Ot := Ow.fr Ob0 ((Fr.refl (fun _ => False) Wb).alloc (.cells #[.int .i64 t, .int .i64 d, .int .i64 a] 84)) (fun _ _ => id)
              have nt := nb0
              have hSe := Sh.one Wb ⟨t, d, a⟩
              clear Oa hFa na Gb0 Ob0 nb0 hFb0
              obtain ⟨vb, Wd, rb, Ob, hFb, nb, Gb⟩ := app_new hFt Ot nt hSe (by first | (simp; done) | (simp; omega))
              refine wpT_one (i := 17) (by kernel_rfl) rfl (fun K hK => ?_)
              refine step_append_go rfl (.tmp 50) (.tmp 58) 46 46 rfl _ _ rfl rfl rb ?_
              simp only [Act.put, List.setIfInBounds_toArray, List.set_cons_zero, List.set_cons_succ]
              refine hK.out _ _ ⟨cell_fr hFb c0 hgn, cell_fr hFb c1 hgn⟩ ?_
              clear hK K rb
              obtain ⟨vc, We, rc, Oc, hFc, nc, Gc⟩ := app_new hFb Ob nb (hx2.fr hFb hxn2) (by first | (simp; done) | (simp; omega))
              refine wpT_one (i := 24) (by kernel_rfl) rfl (fun K hK => ?_)
              refine step_append_go rfl (.tmp 59) (.tmp 65) 46 46 rfl _ _ rfl rfl rc ?_
              simp only [Act.put, List.setIfInBounds_toArray, List.set_cons_zero, List.set_cons_succ]
              refine hK.out _ _ ⟨cell_fr hFc c0 hgn, cell_fr hFc c1 hgn⟩ ?_
              clear hK K rc
              rw [HM.out] at Oc
              obtain ⟨A3, c4, rfl, q3, q4, q5, q6⟩ := Oc.form
              clear q3 q4 q5 q6
              have kz : We.frozen? ⟨g, 1, none⟩ = false := (h1.st.of_block (hFc.block _ hgl hgn)).frozen 1
              have kc := cell_fr hFc c0 hgn
              refine wpT_one (i := 25) (by kernel_rfl) rfl (fun K hK => ?_)
              go_simp
              refine hK.out _ _ ⟨cell_fr hFc c0 hgn, cell_fr hFc c1 hgn⟩ ?_
              clear hK K
              refine wpT_one (i := 26) (by kernel_rfl) rfl (fun K hK => ?_)
              go_simp
              refine hK.out _ _ ⟨cell_fr hFc c0 hgn, cell_fr hFc c1 hgn⟩ ?_
              clear hK K
              refine wpT_last (by kernel_rfl) rfl (by kernel_rfl) (fun K hK => ?_)
              go_simp
              refine hK.out _ _ ?_
              clear hK K
              obtain ⟨hw5, hch5⟩ := ref_store h1 hFc Oc nc
              generalize We.setCell ⟨g, 1, none⟩ (.slice A3 M2.length c4) = W5 at hw5 hch5 ⊢
              clear kz kc Oc hFc nc Gc Gb nb Ob hFb hFt Ot nt hSe hS0
              have l1 := hw5.c1
              have lz := hw5.st.frozen 2
              go_wp2
              go_ret
              exact ⟨rfl, _, by rw [HA.out]; exact hw5.setA (a + 1), (hch.trans hch5).trans (Ch.setH _ _ _ _)⟩
            · go_simp
              have hFe : Fr (fun k => w1.heap.size ≤ k) w1 ((w1.drew.alloc (.cells #[] 84)).alloc (.cells #[.int .i64 t, .int .i64 d, .int .i64 a] 84)) := hFa.alloc _
              refine hK.out _ ((w1.drew.alloc (.cells #[] 84)).alloc (.cells #[.int .i64 t, .int .i64 d, .int .i64 a] 84)) ⟨cell_fr hFe c0 hgn, cell_fr hFe c1 hgn⟩ ?_
              clear hK K
              have Oe := Ow.fr Oa ((Fr.refl (fun _ => False) (w1.drew.alloc (.cells #[] 84))).alloc (.cells #[.int .i64 t, .int .i64 d, .int .i64 a] 84)) (fun _ _ => id)
              obtain ⟨va, Wb, ra, Ot, hFt, nt, Gt⟩ := app_new hFe Oe na (hx1.fr hFe hxn1) (by first | (simp; done) | (simp; omega))
              have hSe := Sh.fr (Sh.one (w1.drew.alloc (.cells #[] 84)) ⟨t, d, a⟩) Gt (fun k hk e => by
                have h2 : (w1.drew.alloc (.cells #[] 84)).heap.size = k := Option.some.inj hk
                have h3 : w1.heap.size = k := Option.some.inj e
                rw [show (w1.drew.alloc (.cells #[] 84)).heap.size = w1.heap.size + 1 from Array.size_push ..] at h2
                omega)
              rw [show (w1.drew.alloc (.cells #[] 84)).heap.size = w1.heap.size + 1 from Array.size_push ..] at hSe
              refine wpT_one (i := 8) (by kernel_rfl) rfl (fun K hK => ?_)
              refine step_append_go rfl (.tmp 43) (.tmp 49) 46 46 rfl _ _ rfl rfl ra ?_
              simp only [Act.put, List.setIfInBounds_toArray, List.set_cons_zero, List.set_cons_succ]
              refine hK.out _ _ ⟨cell_fr hFt c0 hgn, cell_fr hFt c1 hgn⟩ ?_
              clear hK K ra Oa hFa na Oe hFe Gt
              obtain ⟨vb, Wd, rb, Ob, hFb, nb, Gb⟩ := app_new hFt Ot nt hSe (by first | (simp; done) | (simp; omega))
              refine wpT_one (i := 17) (by kernel_rfl) rfl (fun K hK => ?_)
              refine step_append_go rfl (.tmp 50) (.tmp 58) 46 46 rfl _ _ rfl rfl rb ?_
              simp only [Act.put, List.setIfInBounds_toArray, List.set_cons_zero, List.set_cons_succ]
              refine hK.out _ _ ⟨cell_fr hFb c0 hgn, cell_fr hFb c1 hgn⟩ ?_
              clear hK K rb
              obtain ⟨vc, We, rc, Oc, hFc, nc, Gc⟩ := app_new hFb Ob nb (hx2.fr hFb hxn2) (by first | (simp; done) | (simp; omega))
              refine wpT_one (i := 24) (by kernel_rfl) rfl (fun K hK => ?_)
              refine step_append_go rfl (.tmp 59) (.tmp 65) 46 46 rfl _ _ rfl rfl rc ?_
              simp only [Act.put, List.setIfInBounds_toArray, List.set_cons_zero, List.set_cons_succ]
              refine hK.out _ _ ⟨cell_fr hFc c0 hgn, cell_fr hFc c1 hgn⟩ ?_
              clear hK K rc
              rw [HM.out] at Oc
              obtain ⟨A3, c4, rfl, q3, q4, q5, q6⟩ := Oc.form
              clear q3 q4 q5 q6
              have kz : We.frozen? ⟨g, 1, none⟩ = false := (h1.st.of_block (hFc.block _ hgl hgn)).frozen 1
              have kc := cell_fr hFc c0 hgn
              refine wpT_one (i := 25) (by kernel_rfl) rfl (fun K hK => ?_)
              go_simp
              refine hK.out _ _ ⟨cell_fr hFc c0 hgn, cell_fr hFc c1 hgn⟩ ?_
              clear hK K
              refine wpT_one (i := 26) (by kernel_rfl) rfl (fun K hK => ?_)
              go_simp
              refine hK.out _ _ ⟨cell_fr hFc c0 hgn, cell_fr hFc c1 hgn⟩ ?_
              clear hK K
              refine wpT_last (by kernel_rfl) rfl (by kernel_rfl) (fun K hK => ?_)
              go_simp
              refine hK.out _ _ ?_
              clear hK K
              obtain ⟨hw5, hch5⟩ := ref_store h1 hFc Oc nc
              generalize We.setCell ⟨g, 1, none⟩ (.slice A3 M2.length c4) = W5 at hw5 hch5 ⊢
              clear kz kc Oc hFc nc Gc Gb nb Ob hFb hFt Ot nt hSe hS0
              have l1 := hw5.c1
              have lz := hw5.st.frozen 2
              go_wp2
              go_ret
              exact ⟨rfl, _, by rw [HA.out]; exact hw5.setA (a + 1), (hch.trans hch5).trans (Ch.setH _ _ _ _)⟩
          · go_simp
            have hFe : Fr (fun k => w1.heap.size ≤ k) w1 (w1.drew.alloc (.cells #[.int .i64 t, .int .i64 d, .int .i64 a] 84)) := (Fr.refl _ w1).drew.alloc _
            refine hK.out _ (w1.drew.alloc (.cells #[.int .i64 t, .int .i64 d, .int .i64 a] 84)) ⟨cell_fr hFe c0 hgn, cell_fr hFe c1 hgn⟩ ?_
            clear hK K
            refine wpT_one (i := 1) (by kernel_rfl) rfl (fun K hK => ?_)
            go_simp
            have hFa : Fr (fun k => w1.heap.size ≤ k) w1 ((w1.drew.alloc (.cells #[.int .i64 t, .int .i64 d, .int .i64 a] 84)).alloc (.cells #[] 84)) := hFe.alloc _
            refine hK.out _ ((w1.drew.alloc (.cells #[.int .i64 t, .int .i64 d, .int .i64 a] 84)).alloc (.cells #[] 84)) ⟨cell_fr hFa c0 hgn, cell_fr hFa c1 hgn⟩ ?_
            clear hK K
            have Oa : Ow ((w1.drew.alloc (.cells #[.int .i64 t, .int .i64 d, .int .i64 a] 84)).alloc (.cells #[] 84)) (.slice (some ⟨w1.heap.size + 1, 0, none⟩) 0 0) [] := by
              have := Ow.empty (w1.drew.alloc (.cells #[.int .i64 t, .int .i64 d, .int .i64 a] 84))
              rw [show (w1.drew.alloc (.cells #[.int .i64 t, .int .i64 d, .int .i64 a] 84)).heap.size = w1.heap.size + 1 from Array.size_push ..] at this
              exact this
            have na : ∀ k, Value.ownBlock (.slice (some ⟨w1.heap.size + 1, 0, none⟩) 0 0) = some k → w1.heap.size ≤ k := fun k hk => by cases hk; show w1.heap.size ≤ w1.heap.size + 1; omega
            obtain ⟨va, Wb, ra, Ot, hFt, nt, Gt⟩ := app_new hFa Oa na (hx1.fr hFa hxn1) (by first | (simp; done) | (simp; omega))
            have hSe := Sh.fr ((Sh.one w1.drew ⟨t, d, a⟩).fr ((Fr.refl (fun _ => False) (w1.drew.alloc (.cells #[.int .i64 t, .int .i64 d, .int .i64 a] 84))).alloc (.cells #[] 84)) (fun _ _ => id)) Gt (fun k hk e => by
              have h2 : w1.heap.size = k := Option.some.inj hk
              have h3 : w1.heap.size + 1 = k := Option.some.inj e
              omega)
            refine wpT_one (i := 8) (by kernel_rfl) rfl (fun K hK => ?_)
            refine step_append_go rfl (.tmp 43) (.tmp 49) 46 46 rfl _ _ rfl rfl ra ?_
            simp only [Act.put, List.setIfInBounds_toArray, List.set_cons_zero, List.set_cons_succ]
            refine hK.out _ _ ⟨cell_fr hFt c0 hgn, cell_fr hFt c1 hgn⟩ ?_
            clear hK K ra Oa hFa na hFe Gt
            obtain ⟨vb, Wd, rb, Ob, hFb, nb, Gb⟩ := app_new hFt Ot nt hSe (by first | (simp; done) | (simp; omega))
            refine wpT_one (i := 17) (by kernel_rfl) rfl (fun K hK => ?_)
            refine step_append_go rfl (.tmp 50) (.tmp 58) 46 46 rfl _ _ rfl rfl rb ?_
            simp only [Act.put, List.setIfInBounds_toArray, List.set_cons_zero, List.set_cons_succ]
            refine hK.out _ _ ⟨cell_fr hFb c0 hgn, cell_fr hFb c1 hgn⟩ ?_
            clear hK K rb
            obtain ⟨vc, We, rc, Oc, hFc, nc, Gc⟩ := app_new hFb Ob nb (hx2.fr hFb hxn2) (by first | (simp; done) | (simp; omega))
            refine wpT_one (i := 24) (by kernel_rfl) rfl (fun K hK => ?_)
            refine step_append_go rfl (.tmp 59) (.tmp 65) 46 46 rfl _ _ rfl rfl rc ?_
            simp only [Act.put, List.setIfInBounds_toArray, List.set_cons_zero, List.set_cons_succ]
            refine hK.out _ _ ⟨cell_fr hFc c0 hgn, cell_fr hFc c1 hgn⟩ ?_
            clear hK K rc
            rw [HM.out] at Oc
            obtain ⟨A3, c4, rfl, q3, q4, q5, q6⟩ := Oc.form
            clear q3 q4 q5 q6
            have kz : We.frozen? ⟨g, 1, none⟩ = false := (h1.st.of_block (hFc.block _ hgl hgn)).frozen 1
            have kc := cell_fr hFc c0 hgn
            refine wpT_one (i := 25) (by kernel_rfl) rfl (fun K hK => ?_)
            go_simp
            refine hK.out _ _ ⟨cell_fr hFc c0 hgn, cell_fr hFc c1 hgn⟩ ?_
            clear hK K
            refine wpT_one (i := 26) (by kernel_rfl) rfl (fun K hK => ?_)
            go_simp
            refine hK.out _ _ ⟨cell_fr hFc c0 hgn, cell_fr hFc c1 hgn⟩ ?_
            clear hK K
            refine wpT_last (by kernel_rfl) rfl (by kernel_rfl) (fun K hK => ?_)
            go_simp
            refine hK.out _ _ ?_
            clear hK K
            obtain ⟨hw5, hch5⟩ := ref_store h1 hFc Oc nc
            generalize We.setCell ⟨g, 1, none⟩ (.slice A3 M2.length c4) = W5 at hw5 hch5 ⊢
            clear kz kc Oc hFc nc Gc Gb nb Ob hFb hFt Ot nt hSe hS0
            have l1 := hw5.c1
            have lz := hw5.st.frozen 2
            go_wp2
            go_ret
            exact ⟨rfl, _, by rw [HA.out]; exact hw5.setA (a + 1), (hch.trans hch5).trans (Ch.setH _ _ _ _)⟩
        · clear hgo
          go_wp2_with fail
          refine wp_region_T (S := fun W : World => W.cell? ⟨g, 1, none⟩ = some (.slice (some ⟨b, 0, none⟩) M.length c) ∧ W.cell? ⟨g, 2, none⟩ = some (.int .i64 a)) 27 (by kernel_rfl) ?_
          refine wpT_take (i := 0) (v := ?_) rfl (by kernel_rfl) (by kernel_rfl) (by kernel_rfl) (by kernel_rfl) (fun _ _ _ h => h) hS0 (Or.inl ⟨by rfl, fun w hSw => ?_⟩) ?_
          rotate_left
          · obtain ⟨s0, s1⟩ := hSw
            go_simp
            try with_reducible rfl
          simp only [Act.put, List.setIfInBounds_toArray, List.set_cons_zero, List.set_cons_succ]
          refine wpT_take (i := 2) (v := ?_) rfl (by kernel_rfl) (by kernel_rfl) (by kernel_rfl) (by kernel_rfl) (fun _ _ _ h => h) hS0 (Or.inl ⟨by rfl, fun w hSw => ?_⟩) ?_
          rotate_left
          · obtain ⟨s0, s1⟩ := hSw
            go_simp
            try with_reducible rfl
          simp only [Act.put, List.setIfInBounds_toArray, List.set_cons_zero, List.set_cons_succ]
          refine wpT_take (i := 3) (v := ?_) rfl (by kernel_rfl) (by kernel_rfl) (by kernel_rfl) (by kernel_rfl) (fun _ _ _ h => h) hS0 (Or.inl ⟨by rfl, fun w hSw => ?_⟩) ?_
          rotate_left
          · obtain ⟨s0, s1⟩ := hSw
            go_simp
            try with_reducible rfl
          simp only [Act.put, List.setIfInBounds_toArray, List.set_cons_zero, List.set_cons_succ]
          refine wpT_take (i := 4) (v := ?_) rfl (by kernel_rfl) (by kernel_rfl) (by kernel_rfl) (by kernel_rfl) (fun _ _ _ h => h) hS0 (Or.inl ⟨by rfl, fun w hSw => ?_⟩) ?_
          rotate_left
          · obtain ⟨s0, s1⟩ := hSw
            go_simp
            try with_reducible rfl
          simp only [Act.put, List.setIfInBounds_toArray, List.set_cons_zero, List.set_cons_succ]
          refine wpT_take (i := 5) (v := ?_) rfl (by kernel_rfl) (by kernel_rfl) (by kernel_rfl) (by kernel_rfl) (fun _ _ _ h => h) hS0 (Or.inl ⟨by rfl, fun w hSw => ?_⟩) ?_
          rotate_left
          · obtain ⟨s0, s1⟩ := hSw
            go_simp
            try with_reducible rfl
          simp only [Act.put, List.setIfInBounds_toArray, List.set_cons_zero, List.set_cons_succ]
          refine wpT_take (i := 6) (v := ?_) rfl (by kernel_rfl) (by kernel_rfl) (by kernel_rfl) (by kernel_rfl) (fun _ _ _ h => h) hS0 (Or.inl ⟨by rfl, fun w hSw => ?_⟩) ?_
          rotate_left
          · obtain ⟨s0, s1⟩ := hSw
            go_simp
            try with_reducible rfl
          simp only [Act.put, List.setIfInBounds_toArray, List.set_cons_zero, List.set_cons_succ]
          refine wpT_take (i := 7) (v := ?_) rfl (by kernel_rfl) (by kernel_rfl) (by kernel_rfl) (by kernel_rfl) (fun _ _ _ h => h) hS0 (Or.inl ⟨by rfl, fun w hSw => ?_⟩) ?_
          rotate_left
          · obtain ⟨s0, s1⟩ := hSw
            go_simp
            try with_reducible rfl
          simp only [Act.put, List.setIfInBounds_toArray, List.set_cons_zero, List.set_cons_succ]
          refine wpT_take (i := 9) (v := ?_) rfl (by kernel_rfl) (by kernel_rfl) (by kernel_rfl) (by kernel_rfl) (fun _ _ _ h => h) hS0 (Or.inl ⟨by rfl, fun w hSw => ?_⟩) ?_
          rotate_left
          · obtain ⟨s0, s1⟩ := hSw
            go_simp
            try with_reducible rfl
          simp only [Act.put, List.setIfInBounds_toArray, List.set_cons_zero, List.set_cons_succ]
          refine wpT_take (i := 10) (v := ?_) rfl (by kernel_rfl) (by kernel_rfl) (by kernel_rfl) (by kernel_rfl) (fun _ _ _ h => h) hS0 (Or.inl ⟨by rfl, fun w hSw => ?_⟩) ?_
          rotate_left
          · obtain ⟨s0, s1⟩ := hSw
            go_simp
            try with_reducible rfl
          simp only [Act.put, List.setIfInBounds_toArray, List.set_cons_zero, List.set_cons_succ]
          refine wpT_take (i := 11) (v := ?_) rfl (by kernel_rfl) (by kernel_rfl) (by kernel_rfl) (by kernel_rfl) (fun _ _ _ h => h) hS0 (Or.inl ⟨by rfl, fun w hSw => ?_⟩) ?_
          rotate_left
          · obtain ⟨s0, s1⟩ := hSw
            go_simp
            try with_reducible rfl
          simp only [Act.put, List.setIfInBounds_toArray, List.set_cons_zero, List.set_cons_succ]
          refine wpT_take (i := 12) (v := ?_) rfl (by kernel_rfl) (by kernel_rfl) (by kernel_rfl) (by kernel_rfl) (fun _ _ _ h => h) hS0 (Or.inl ⟨by rfl, fun w hSw => ?_⟩) ?_
          rotate_left
          · obtain ⟨s0, s1⟩ := hSw
            go_simp
            try with_reducible rfl
          simp only [Act.put, List.setIfInBounds_toArray, List.set_cons_zero, List.set_cons_succ]
          refine wpT_take (i := 13) (v := ?_) rfl (by kernel_rfl) (by kernel_rfl) (by kernel_rfl) (by kernel_rfl) (fun _ _ _ h => h) hS0 (Or.inl ⟨by rfl, fun w hSw => ?_⟩) ?_
          rotate_left
          · obtain ⟨s0, s1⟩ := hSw
            go_simp
            try with_reducible rfl
          simp only [Act.put, List.setIfInBounds_toArray, List.set_cons_zero, List.set_cons_succ]
          refine wpT_take (i := 14) (v := ?_) rfl (by kernel_rfl) (by kernel_rfl) (by kernel_rfl) (by kernel_rfl) (fun _ _ _ h => h) hS0 (Or.inl ⟨by rfl, fun w hSw => ?_⟩) ?_
          rotate_left
          · obtain ⟨s0, s1⟩ := hSw
            go_simp
            try with_reducible rfl
          simp only [Act.put, List.setIfInBounds_toArray, List.set_cons_zero, List.set_cons_succ]
          refine wpT_take (i := 15) (v := ?_) rfl (by kernel_rfl) (by kernel_rfl) (by kernel_rfl) (by kernel_rfl) (fun _ _ _ h => h) hS0 (Or.inl ⟨by rfl, fun w hSw => ?_⟩) ?_
          rotate_left
          · obtain ⟨s0, s1⟩ := hSw
            go_simp
            try with_reducible rfl
          simp only [Act.put, List.setIfInBounds_toArray, List.set_cons_zero, List.set_cons_succ]
          refine wpT_take (i := 18) (v := ?_) rfl (by kernel_rfl) (by kernel_rfl) (by kernel_rfl) (by kernel_rfl) (fun _ _ _ h => h) hS0 (Or.inl ⟨by rfl, fun w hSw => ?_⟩) ?_
          rotate_left
          · obtain ⟨s0, s1⟩ := hSw
            go_simp
            try with_reducible rfl
          simp only [Act.put, List.setIfInBounds_toArray, List.set_cons_zero, List.set_cons_succ]
          refine wpT_take (i := 19) (v := ?_) rfl (by kernel_rfl) (by kernel_rfl) (by kernel_rfl) (by kernel_rfl) (fun _ _ _ h => h) hS0 (Or.inl ⟨by rfl, fun w hSw => ?_⟩) ?_
          rotate_left
          · obtain ⟨s0, s1⟩ := hSw
            go_simp
            try with_reducible rfl
          simp only [Act.put, List.setIfInBounds_toArray, List.set_cons_zero, List.set_cons_succ]
          refine wpT_take (i := 20) (v := ?_) rfl (by kernel_rfl) (by kernel_rfl) (by kernel_rfl) (by kernel_rfl) (fun _ _ _ h => h) hS0 (Or.inl ⟨by rfl, fun w hSw => ?_⟩) ?_
          rotate_left
          · obtain ⟨s0, s1⟩ := hSw
            go_simp
            try with_reducible rfl
          simp only [Act.put, List.setIfInBounds_toArray, List.set_cons_zero, List.set_cons_succ]
          refine wpT_take (i := 21) (v := ?_) rfl (by kernel_rfl) (by kernel_rfl) (by kernel_rfl) (by kernel_rfl) (fun _ _ _ h => h) hS0 (Or.inl ⟨by rfl, fun w hSw => ?_⟩) ?_
          rotate_left
          · obtain ⟨s0, s1⟩ := hSw
            go_simp
            try with_reducible rfl
          simp only [Act.put, List.setIfInBounds_toArray, List.set_cons_zero, List.set_cons_succ]
          refine wpT_take (i := 22) (v := ?_) rfl (by kernel_rfl) (by kernel_rfl) (by kernel_rfl) (by kernel_rfl) (fun _ _ _ h => h) hS0 (Or.inl ⟨by rfl, fun w hSw => ?_⟩) ?_
          rotate_left
          · obtain ⟨s0, s1⟩ := hSw
            go_simp
            try with_reducible rfl
          simp only [Act.put, List.setIfInBounds_toArray, List.set_cons_zero, List.set_cons_succ]
          refine wpT_take (i := 23) (v := ?_) rfl (by kernel_rfl) (by kernel_rfl) (by kernel_rfl) (by kernel_rfl) (fun _ _ _ h => h) hS0 (Or.inl ⟨by rfl, fun w hSw => ?_⟩) ?_
          rotate_left
          · obtain ⟨s0, s1⟩ := hSw
            go_simp
            try with_reducible rfl
          simp only [Act.put, List.setIfInBounds_toArray, List.set_cons_zero, List.set_cons_succ]
          clear ho3 hc3
          refine wpT_two (i := 1) (j := 16) (by kernel_rfl) rfl rfl (fun K hK => ?_) (fun K hK => ?_)
          · go_simp
            have hFa : Fr (fun k => w1.heap.size ≤ k) w1 (w1.drew.alloc (.cells #[] 84)) := (Fr.refl _ w1).drew.alloc _
            refine hK.out _ (w1.drew.alloc (.cells #[] 84)) ⟨cell_fr hFa c0 hgn, cell_fr hFa c1 hgn⟩ ?_
            clear hK K
            have Oa : Ow (w1.drew.alloc (.cells #[] 84)) (.slice (some ⟨w1.heap.size, 0, none⟩) 0 0) [] := Ow.empty w1.drew
            have na : ∀ k, Value.ownBlock (.slice (some ⟨w1.heap.size, 0, none⟩) 0 0) = some k → w1.heap.size ≤ k := fun k hk => by cases hk; exact Nat.le_refl _
            refine wpT_two (i := 8) (j := 16) (by kernel_rfl) rfl rfl (fun K hK => ?_) (fun K hK => ?_)
            · obtain ⟨va, Wb, ra, Ob0, hFb0, nb0, Gb0⟩ := app_new hFa Oa na (hx1.fr hFa hxn1) (by first | (simp; done) | (simp; omega))
              refine step_append_go rfl (.tmp 43) (.tmp 49) 46 46 rfl _ _ rfl rfl ra ?_
              simp only [Act.put, List.setIfInBounds_toArray, List.set_cons_zero, List.set_cons_succ]
              refine hK.out _ _ ⟨cell_fr hFb0 c0 hgn, cell_fr hFb0 c1 hgn⟩ ?_
              clear hK K ra
              refine wpT_one (i := 16) (by kernel_rfl) rfl (fun K hK => ?_)
              go_simp
              have hFt : Fr (fun k => w1.heap.size ≤ k) w1 (Wb.alloc (.cells #[.int .i64 t, .int .i64 d, .int .i64 a] 84)) := hFb0.alloc _
              refine hK.out _ (Wb.alloc (.cells #[.int .i64 t, .int .i64 d, .int .i64 a] 84)) ⟨cell_fr hFt c0 hgn, cell_fr hFt c1 hgn⟩ ?_
              clear hK K
              have Ot := Ow.fr Ob0 ((Fr.refl (fun _ => False) Wb).alloc (.cells #[.int .i64 t, .int .i64 d, .int .i64 a] 84)) (fun _ _ => id)
              have nt := nb0
              have hSe := Sh.one Wb ⟨t, d, a⟩
              clear Oa hFa na Gb0 Ob0 nb0 hFb0
              obtain ⟨vb, Wd, rb, Ob, hFb, nb, Gb⟩ := app_new hFt Ot nt hSe (by first | (simp; done) | (simp; omega))
              refine wpT_one (i := 17) (by kernel_rfl) rfl (fun K hK => ?_)
              refine step_append_go rfl (.tmp 50) (.tmp 58) 46 46 rfl _ _ rfl rfl rb ?_
              simp only [Act.put, List.setIfInBounds_toArray, List.set_cons_zero, List.set_cons_succ]
              refine hK.out _ _ ⟨cell_fr hFb c0 hgn, cell_fr hFb c1 hgn⟩ ?_
              clear hK K rb
              obtain ⟨vc, We, rc, Oc, hFc, nc, Gc⟩ := app_new hFb Ob nb (hx2.fr hFb hxn2) (by first | (simp; done) | (simp; omega))
              refine wpT_one (i := 24) (by kernel_rfl) rfl (fun K hK => ?_)
              refine step_append_go rfl (.tmp 59) (.tmp 65) 46 46 rfl _ _ rfl rfl rc ?_
              simp only [Act.put, List.setIfInBounds_toArray, List.set_cons_zero, List.set_cons_succ]
              refine hK.out _ _ ⟨cell_fr hFc c0 hgn, cell_fr hFc c1 hgn⟩ ?_
              clear hK K rc
              rw [HM.out] at Oc
              obtain ⟨A3, c4, rfl, q3, q4, q5, q6⟩ := Oc.form
              clear q3 q4 q5 q6
              have kz : We.frozen? ⟨g, 1, none⟩ = false := (h1.st.of_block (hFc.block _ hgl hgn)).frozen 1
              have kc := cell_fr hFc c0 hgn
              refine wpT_one (i := 25) (by kernel_rfl) rfl (fun K hK => ?_)
              go_simp
              refine hK.out _ _ ⟨cell_fr hFc c0 hgn, cell_fr hFc c1 hgn⟩ ?_
              clear hK K
              refine wpT_one (i := 26) (by kernel_rfl) rfl (fun K hK => ?_)
              go_simp
              refine hK.out _ _ ⟨cell_fr hFc c0 hgn, cell_fr hFc c1 hgn⟩ ?_
              clear hK K
              refine wpT_last (by kernel_rfl) rfl (by kernel_rfl) (fun K hK => ?_)
              go_simp
              refine hK.out _ _ ?_
              clear hK K
              obtain ⟨hw5, hch5⟩ := ref_store h1 hFc Oc nc
              generalize We.setCell ⟨g, 1, none⟩ (.slice A3 M2.length c4) = W5 at hw5 hch5 ⊢
              clear kz kc Oc hFc nc Gc Gb nb Ob hFb hFt Ot nt hSe hS0
              have l1 := hw5.c1
              have lz := hw5.st.frozen 2
              go_wp2
              go_ret
              exact ⟨rfl, _, by rw [HA.out]; exact hw5.setA (a + 1), (hch.trans hch5).trans (Ch.setH _ _ _ _)⟩
            · go_simp
              have hFe : Fr (fun k => w1.heap.size ≤ k) w1 ((w1.drew.alloc (.cells #[] 84)).alloc (.cells #[.int .i64 t, .int .i64 d, .int .i64 a] 84)) := hFa.alloc _
              refine hK.out _ ((w1.drew.alloc (.cells #[] 84)).alloc (.cells #[.int .i64 t, .int .i64 d, .int .i64 a] 84)) ⟨cell_fr hFe c0 hgn, cell_fr hFe c1 hgn⟩ ?_
              clear hK K
              have Oe := Ow.fr Oa ((Fr.refl (fun _ => False) (w1.drew.alloc (.cells #[] 84))).alloc (.cells #[.int .i64 t, .int .i64 d, .int .i64 a] 84)) (fun _ _ => id)
              obtain ⟨va, Wb, ra, Ot, hFt, nt, Gt⟩ := app_new hFe Oe na (hx1.fr hFe hxn1) (by first | (simp; done) | (simp; omega))
              have hSe := Sh.fr (Sh.one (w1.drew.alloc (.cells #[] 84)) ⟨t, d, a⟩) Gt (fun k hk e => by
                have h2 : (w1.drew.alloc (.cells #[] 84)).heap.size = k := Option.some.inj hk
                have h3 : w1.heap.size = k := Option.some.inj e
                rw [show (w1.drew.alloc (.cells #[] 84)).heap.size = w1.heap.size + 1 from Array.size_push ..] at h2
                omega)
              rw [show (w1.drew.alloc (.cells #[] 84)).heap.size = w1.heap.size + 1 from Array.size_push ..] at hSe
              refine wpT_one (i := 8) (by kernel_rfl) rfl (fun K hK => ?_)
              refine step_append_go rfl (.tmp 43) (.tmp 49) 46 46 rfl _ _ rfl rfl ra ?_
              simp only [Act.put, List.setIfInBounds_toArray, List.set_cons_zero, List.set_cons_succ]
              refine hK.out _ _ ⟨cell_fr hFt c0 hgn, cell_fr hFt c1 hgn⟩ ?_
              clear hK K ra Oa hFa na Oe hFe Gt
              obtain ⟨vb, Wd, rb, Ob, hFb, nb, Gb⟩ := app_new hFt Ot nt hSe (by first | (simp; done) | (simp; omega))
              refine wpT_one (i := 17) (by kernel_rfl) rfl (fun K hK => ?_)
              refine step_append_go rfl (.tmp 50) (.tmp 58) 46 46 rfl _ _ rfl rfl rb ?_
              simp only [Act.put, List.setIfInBounds_toArray, List.set_cons_zero, List.set_cons_succ]
              refine hK.out _ _ ⟨cell_fr hFb c0 hgn, cell_fr hFb c1 hgn⟩ ?_
              clear hK K rb
              obtain ⟨vc, We, rc, Oc, hFc, nc, Gc⟩ := app_new hFb Ob nb (hx2.fr hFb hxn2) (by first | (simp; done) | (simp; omega))
              refine wpT_one (i := 24) (by kernel_rfl) rfl (fun K hK => ?_)
              refine step_append_go rfl (.tmp 59) (.tmp 65) 46 46 rfl _ _ rfl rfl rc ?_
              simp only [Act.put, List.setIfInBounds_toArray, List.set_cons_zero, List.set_cons_succ]
              refine hK.out _ _ ⟨cell_fr hFc c0 hgn, cell_fr hFc c1 hgn⟩ ?_
              clear hK K rc
              rw [HM.out] at Oc
              obtain ⟨A3, c4, rfl, q3, q4, q5, q6⟩ := Oc.form
              clear q3 q4 q5 q6
              have kz : We.frozen? ⟨g, 1, none⟩ = false := (h1.st.of_block (hFc.block _ hgl hgn)).frozen 1
              have kc := cell_fr hFc c0 hgn
              refine wpT_one (i := 25) (by kernel_rfl) rfl (fun K hK => ?_)
              go_simp
              refine hK.out _ _ ⟨cell_fr hFc c0 hgn, cell_fr hFc c1 hgn⟩ ?_
              clear hK K
              refine wpT_one (i := 26) (by kernel_rfl) rfl (fun K hK => ?_)
              go_simp
              refine hK.out _ _ ⟨cell_fr hFc c0 hgn, cell_fr hFc c1 hgn⟩ ?_
              clear hK K
              refine wpT_last (by kernel_rfl) rfl (by kernel_rfl) (fun K hK => ?_)
              go_simp
              refine hK.out _ _ ?_
              clear hK K
              obtain ⟨hw5, hch5⟩ := ref_store h1 hFc Oc nc
              generalize We.setCell ⟨g, 1, none⟩ (.slice A3 M2.length c4) = W5 at hw5 hch5 ⊢
              clear kz kc Oc hFc nc Gc Gb nb Ob hFb hFt Ot nt hSe hS0
              have l1 := hw5.c1
              have lz := hw5.st.frozen 2
              go_wp2
              go_ret
              exact ⟨rfl, _, by rw [HA.out]; exact hw5.setA (a + 1), (hch.trans hch5).trans (Ch.setH _ _ _ _)⟩
          · go_simp
            have hFe : Fr (fun k => w1.heap.size ≤ k) w1 (w1.drew.alloc (.cells #[.int .i64 t, .int .i64 d, .int .i64 a] 84)) := (Fr.refl _ w1).drew.alloc _
            refine hK.out _ (w1.drew.alloc (.cells #[.int .i64 t, .int .i64 d, .int .i64 a] 84)) ⟨cell_fr hFe c0 hgn, cell_fr hFe c1 hgn⟩ ?_
            clear hK K
            refine wpT_one (i := 1) (by kernel_rfl) rfl (fun K hK => ?_)
            go_simp
            have hFa : Fr (fun k => w1.heap.size ≤ k) w1 ((w1.drew.alloc (.cells #[.int .i64 t, .int .i64 d, .int .i64 a] 84)).alloc (.cells #[] 84)) := hFe.alloc _
            refine hK.out _ ((w1.drew.alloc (.cells #[.int .i64 t, .int .i64 d, .int .i64 a] 84)).alloc (.cells #[] 84)) ⟨cell_fr hFa c0 hgn, cell_fr hFa c1 hgn⟩ ?_
            clear hK K
            have Oa : Ow ((w1.drew.alloc (.cells #[.int .i64 t, .int .i64 d, .int .i64 a] 84)).alloc (.cells #[] 84)) (.slice (some ⟨w1.heap.size + 1, 0, none⟩) 0 0) [] := by
              have := Ow.empty (w1.drew.alloc (.cells #[.int .i64 t, .int .i64 d, .int .i64 a] 84))
              rw [show (w1.drew.alloc (.cells #[.int .i64 t, .int .i64 d, .int .i64 a] 84)).heap.size = w1.heap.size + 1 from Array.size_push ..] at this
              exact this
            have na : ∀ k, Value.ownBlock (.slice (some ⟨w1.heap.size + 1, 0, none⟩) 0 0) = some k → w1.heap.size ≤ k := fun k hk => by cases hk; show w1.heap.size ≤ w1.heap.size + 1; omega
            obtain ⟨va, Wb, ra, Ot, hFt, nt, Gt⟩ := app_new hFa Oa na (hx1.fr hFa hxn1) (by first | (simp; done) | (simp; omega))
            have hSe := Sh.fr ((Sh.one w1.drew ⟨t, d, a⟩).fr ((Fr.refl (fun _ => False) (w1.drew.alloc (.cells #[.int .i64 t, .int .i64 d, .int .i64 a] 84))).alloc (.cells #[] 84)) (fun _ _ => id)) Gt (fun k hk e => by
              have h2 : w1.heap.size = k := Option.some.inj hk
              have h3 : w1.heap.size + 1 = k := Option.some.inj e
              omega)
            refine wpT_one (i := 8) (by kernel_rfl) rfl (fun K hK => ?_)
            refine step_append_go rfl (.tmp 43) (.tmp 49) 46 46 rfl _ _ rfl rfl ra ?_
            simp only [Act.put, List.setIfInBounds_toArray, List.set_cons_zero, List.set_cons_succ]
            refine hK.out _ _ ⟨cell_fr hFt c0 hgn, cell_fr hFt c1 hgn⟩ ?_
            clear hK K ra Oa hFa na hFe Gt
            obtain ⟨vb, Wd, rb, Ob, hFb, nb, Gb⟩ := app_new hFt Ot nt hSe (by first | (simp; done) | (simp; omega))
            refine wpT_one (i := 17) (by kernel_rfl) rfl (fun K hK => ?_)
            refine step_append_go rfl (.tmp 50) (.tmp 58) 46 46 rfl _ _ rfl rfl rb ?_
            simp only [Act.put, List.setIfInBounds_toArray, List.set_cons_zero, List.set_cons_succ]
            refine hK.out _ _ ⟨cell_fr hFb c0 hgn, cell_fr hFb c1 hgn⟩ ?_
            clear hK K rb
            obtain ⟨vc, We, rc, Oc, hFc, nc, Gc⟩ := app_new hFb Ob nb (hx2.fr hFb hxn2) (by first | (simp; done) | (simp; omega))
            refine wpT_one (i := 24) (by kernel_rfl) rfl (fun K hK => ?_)
            refine step_append_go rfl (.tmp 59) (.tmp 65) 46 46 rfl _ _ rfl rfl rc ?_
            simp only [Act.put, List.setIfInBounds_toArray, List.set_cons_zero, List.set_cons_succ]
            refine hK.out _ _ ⟨cell_fr hFc c0 hgn, cell_fr hFc c1 hgn⟩ ?_
            clear hK K rc
            rw [HM.out] at Oc
            obtain ⟨A3, c4, rfl, q3, q4, q5, q6⟩ := Oc.form
            clear q3 q4 q5 q6
            have kz : We.frozen? ⟨g, 1, none⟩ = false := (h1.st.of_block (hFc.block _ hgl hgn)).frozen 1
            have kc := cell_fr hFc c0 hgn
            refine wpT_one (i := 25) (by kernel_rfl) rfl (fun K hK => ?_)
            go_simp
            refine hK.out _ _ ⟨cell_fr hFc c0 hgn, cell_fr hFc c1 hgn⟩ ?_
            clear hK K
            refine wpT_one (i := 26) (by kernel_rfl) rfl (fun K hK => ?_)
            go_simp
            refine hK.out _ _ ⟨cell_fr hFc c0 hgn, cell_fr hFc c1 hgn⟩ ?_
            clear hK K
            refine wpT_last (by kernel_rfl) rfl (by kernel_rfl) (fun K hK => ?_)
            go_simp
            refine hK.out _ _ ?_
            clear hK K
            obtain ⟨hw5, hch5⟩ := ref_store h1 hFc Oc nc
            generalize We.setCell ⟨g, 1, none⟩ (.slice A3 M2.length c4) = W5 at hw5 hch5 ⊢
            clear kz kc Oc hFc nc Gc Gb nb Ob hFb hFt Ot nt hSe hS0
            have l1 := hw5.c1
            have lz := hw5.st.frozen 2
            go_wp2
            go_ret
            exact ⟨rfl, _, by rw [HA.out]; exact hw5.setA (a + 1), (hch.trans hch5).trans (Ch.setH _ _ _ _)⟩
end
end Go.Proofs.YtkfedihaldpgmaaGreat
