/-
  Chapter 11, from chapter 9's text: as a part of the document's bus: the document's own wheel: Cancel, At.
-/
import Derived.Test.YtkfedihaldpgmaaGreatBw11
import Derived.Test.YtkfedihaldpgmaaGreatTk9
namespace Go.Proofs.YtkfedihaldpgmaaGreat
open Go.RowKit
set_option linter.unusedVariables false
set_option linter.unusedSimpArgs false
section
variable {C : Nat → Value} {w : World} {g : Nat} {v : Value} {L : List Ev} {a : Int}
theorem Sh.take {b c n : Nat} (h : Ow w (.slice (some ⟨b, 0, none⟩) n c) L) (i : Nat) (hi : i ≤ L.length) : Sh w (.slice (some ⟨b, 0, none⟩) i c) (L.take i) := by
  obtain ⟨cs, hR, ht, hn⟩ := Rw.of h
  refine .inr ⟨b, 0, c, by rw [List.length_take, Nat.min_eq_left hi], fun j u hu => ?_⟩
  rw [evs_take, List.getElem?_take] at hu
  rw [Nat.zero_add, hR.cell]
  split at hu
  · rw [← ht, List.getElem?_take] at hu
    split at hu
    · exact hu
    · cases hu
  · cases hu
theorem Sh.drop {b c n o : Nat} (h : Ow w (.slice (some ⟨b, 0, none⟩) n c) L) (i k : Nat) (hi : i ≤ L.length) (ho : i < L.length → o = i * 3) : Sh w (.slice (some ⟨b, o, none⟩) (L.length - i) k) (L.drop i) := by
  obtain ⟨cs, hR, ht, hn⟩ := Rw.of h
  refine .inr ⟨b, o, k, by rw [List.length_drop], fun j u hu => ?_⟩
  have hj : j < (evs (L.drop i)).length := (List.getElem?_eq_some_iff.1 hu).1
  rw [evs_len, List.length_drop] at hj
  rw [evs_drop, List.getElem?_drop] at hu
  rw [ho (by omega), hR.cell]
  rw [← ht, List.getElem?_take] at hu
  split at hu
  · exact hu
  · cases hu
theorem Ow.empty (w : World) : Ow (w.alloc (.cells #[] 84)) (.slice (some ⟨w.heap.size, 0, none⟩) 0 0) [] := World.ownsRow_made w #[] 0 (Nat.zero_le _) (by unfold maxLen; omega) rfl

/-- a slice in new memory is stored -/
theorem ref_store {C : Nat → Value} {w4 : World} {v4 : Value} {L4 : List Ev} (h : Wb C w g v L a) (hF : Fr (fun k => w.heap.size ≤ k) w w4) (hO : Ow w4 v4 L4) (hn : ∀ k, v4.ownBlock = some k → w.heap.size ≤ k) :
    Wb C (w4.setCell ⟨g, 1, none⟩ v4) g v4 L4 a ∧ Ch g v v4 w (w4.setCell ⟨g, 1, none⟩ v4) := by
  have hg := h.st.lt
  refine ⟨Wb.setV (h.st.of_block (hF.block _ hg (by omega))) hO (fun e => by have := hn _ e; omega), ⟨?_, fun k hk => .inr (hn k hk)⟩⟩
  refine Fr.setCell (x := ⟨g, 1, none⟩) ?_ (.inl (.inl rfl)) _
  exact ⟨hF.os, hF.tape, hF.output, hF.size, fun i hi _ => hF.block i hi (by omega)⟩
set_option maxHeartbeats 4000000 in
set_option maxRecDepth 100000 in
theorem rcancel_any (d : Int) (h : Wb C w g v L a) (hl : L.length ≤ 999999) :
    Calls Tryz.prog 82 #[.pointer (some ⟨g, 1, none⟩), .int .i64 d] w (RetX C (.bool (cancB d L)) w g v (delF d L) a) := by
  have c0 := h.c0
  have hgl := h.st.lt
  obtain ⟨A, c, rfl, hc, hcm, hz, hA⟩ := h.ev.form
  have HA := Lib.hid hA
  clear hA hz
  go_enter Tryz.func82, Tryz.ntmps82
  go_wp2
  go_loopw [5] (fun i wr => ∃ k : Nat, k ≤ L.length ∧ i = .int .i64 k ∧ w = wr ∧ Hid (∀ j (hj : j < L.length), j < k → (L[j]).d ≠ d)) (fun i _ => L.length - (intOf i).toNat)
  case atStart => exact ⟨0, by omega, rfl, rfl, fun j _ hj => by omega⟩
  case round =>
    obtain ⟨k, hk, rfl, rfl, HN⟩ := hrel
    by_cases hlt : k < L.length
    · obtain ⟨b, rfl⟩ := HA.out (by omega)
      obtain ⟨q0, q1, q2⟩ := h.ev.at hlt
      by_cases hd : (L[k]).d = d
      · have HD := Lib.hid hd
        have hdb : ((L[k]).d == d) = true := by simpa using hd
        clear hd
        have HE : Hid (ixD d L = k) := ixD_hit hlt HD.out (fun j hj => HN.out j (by omega) hj)
        have HC : Hid (cancB d L = true) := by show _ = _; unfold cancB; rw [HE.out]; exact decide_eq_true hlt
        have HF : Hid (delF d L = L.take k ++ L.drop (k + 1)) := by show _ = _; unfold delF; rw [HE.out, erase_eq]
        have hev := h.ev
        have hne := h.ne
        go_wp2_with fail
        -- the worlds ahead
        have hF1 : Fr (fun _ => False) w (w.drew.alloc (.cells #[] 84)) := (Fr.refl _ w).drew.alloc _
        have O1 : Ow (w.drew.alloc (.cells #[] 84)) (.slice (some ⟨w.heap.size, 0, none⟩) 0 0) [] := Ow.empty w.drew
        have n1 : ∀ W, Hid (W = w.drew.alloc (.cells #[] 84)) → True := fun _ _ => trivial
        obtain ⟨v1, w2, r1, O2, F2, N2⟩ := run_append_ev (M := L.take k) 46 O1 ((Sh.take hev k hk).fr hF1 (fun _ _ => id)) (by rw [List.length_take]; simp; omega)
        have S0 : ∀ k2 : Nat, v1.ownBlock = some k2 → w.heap.size ≤ k2 := by
          intro k2 h2
          rcases N2 with e | e
          · rw [e] at h2; cases h2; exact Nat.le_refl _
          · rw [e] at h2; cases h2; show w.heap.size ≤ (w.heap.push _).size; rw [Array.size_push]; omega
        have hF2 : Fr (fun k2 => w.heap.size ≤ k2) w w2 := (hF1.mono (fun _ e => e.elim)).trans (F2.mono (fun k2 e => by cases e; exact Nat.le_refl _))
        have hb : b < w.heap.size := h.ev.lt b rfl
        obtain ⟨o3, c3, ho3, hc3, hx3⟩ : ∃ o3 c3, (if c = k + 1 then some (⟨b, 0, none⟩ : Addr) else some ⟨b, (k + 1) * 3, none⟩) = some ⟨b, o3, none⟩ ∧ c - (k + 1) = c3 ∧ Sh w2 (.slice (some ⟨b, o3, none⟩) (L.length - (k + 1)) c3) (L.drop (k + 1)) := by
          by_cases e : c = k + 1
          · exact ⟨0, _, by rw [if_pos e], rfl, (Sh.drop hev (k + 1) _ (by omega) (fun _ => by omega)).fr hF2 (fun k2 h2 => by cases h2; show ¬ w.heap.size ≤ b; omega)⟩
          · exact ⟨_, _, by rw [if_neg e], rfl, (Sh.drop hev (k + 1) _ (by omega) (fun _ => rfl)).fr hF2 (fun k2 h2 => by cases h2; show ¬ w.heap.size ≤ b; omega)⟩
        obtain ⟨v3, w4, r3, O4, F4, N4⟩ := run_append_ev 46 O2 hx3 (by simp; omega)
        have hF4 : Fr (fun k2 => w.heap.size ≤ k2) w w4 := hF2.trans (F4.mono (fun k2 e => S0 k2 e))
        have k1 := cell_fr hF1 c0 id
        have k2 := cell_fr hF2 c0 (by show ¬ w.heap.size ≤ g; omega)
        have k4 := cell_fr hF4 c0 (by show ¬ w.heap.size ≤ g; omega)
        have hS0 : (fun W : World => W.cell? ⟨g, 1, none⟩ = some (.slice (some ⟨b, 0, none⟩) L.length c)) w.drew := c0
        have kz : w4.frozen? ⟨g, 1, none⟩ = false := (h.st.of_block (hF4.block _ hgl (by show ¬ w.heap.size ≤ g; omega))).frozen 1
        have R1 := Lib.hid r1
        have R3 := Lib.hid r3
        clear r1 r3
        obtain ⟨M, HM⟩ : ∃ M, Hid ([] ++ L.take k ++ L.drop (k + 1) = M) := ⟨_, Lib.hid rfl⟩
        rw [HM.out] at O4
        have HF2 : Hid (delF d L = M) := by show _ = _; rw [HF.out, ← HM.out]; rfl
        obtain ⟨A3, c4, rfl, q3, q4, q5, q6⟩ := O4.form
        clear q3 q4 q5 q6
        have f1 : ((k : Int) + 1).toNat = k + 1 := by omega
        have f2 : (0 : Int) ≤ (k : Int) + 1 := by omega
        have f3 : (k : Int) + 1 ≤ L.length := by omega
        have f4 : (k : Int) ≤ c := by omega
        have f5 : IntKind.i64.wrap ((k : Int) + 1) = (k : Int) + 1 := by rw [IntKind.wrap_i64]; omega
        refine wp_region_T (S := fun W : World => W.cell? ⟨g, 1, none⟩ = some (.slice (some ⟨b, 0, none⟩) L.length c)) 19 (by kernel_rfl) ?_
        refine wpT_take (i := 0) (v := ?_) rfl (by kernel_rfl) (by kernel_rfl) (by kernel_rfl) (by kernel_rfl) (fun _ _ _ h => h) hS0 (Or.inl ⟨by rfl, fun w hSw => ?_⟩) ?_
        rotate_left
        · (try dsimp only at hSw)
          go_simp
          try with_reducible rfl
        simp only [Act.put, List.setIfInBounds_toArray, List.set_cons_zero, List.set_cons_succ]
        refine wpT_take (i := 2) (v := ?_) rfl (by kernel_rfl) (by kernel_rfl) (by kernel_rfl) (by kernel_rfl) (fun _ _ _ h => h) hS0 (Or.inl ⟨by rfl, fun w hSw => ?_⟩) ?_
        rotate_left
        · (try dsimp only at hSw)
          go_simp
          try with_reducible rfl
        simp only [Act.put, List.setIfInBounds_toArray, List.set_cons_zero, List.set_cons_succ]
        refine wpT_take (i := 3) (v := ?_) rfl (by kernel_rfl) (by kernel_rfl) (by kernel_rfl) (by kernel_rfl) (fun _ _ _ h => h) hS0 (Or.inl ⟨by rfl, fun w hSw => ?_⟩) ?_
        rotate_left
        · (try dsimp only at hSw)
          go_simp
          try with_reducible rfl
        simp only [Act.put, List.setIfInBounds_toArray, List.set_cons_zero, List.set_cons_succ]
        refine wpT_take (i := 4) (v := ?_) rfl (by kernel_rfl) (by kernel_rfl) (by kernel_rfl) (by kernel_rfl) (fun _ _ _ h => h) hS0 (Or.inl ⟨by rfl, fun w hSw => ?_⟩) ?_
        rotate_left
        · (try dsimp only at hSw)
          go_simp
          try with_reducible rfl
        simp only [Act.put, List.setIfInBounds_toArray, List.set_cons_zero, List.set_cons_succ]
        refine wpT_take (i := 5) (v := ?_) rfl (by kernel_rfl) (by kernel_rfl) (by kernel_rfl) (by kernel_rfl) (fun _ _ _ h => h) hS0 (Or.inl ⟨by rfl, fun w hSw => ?_⟩) ?_
        rotate_left
        · (try dsimp only at hSw)
          go_simp
          try with_reducible rfl
        simp only [Act.put, List.setIfInBounds_toArray, List.set_cons_zero, List.set_cons_succ]
        refine wpT_take (i := 6) (v := ?_) rfl (by kernel_rfl) (by kernel_rfl) (by kernel_rfl) (by kernel_rfl) (fun _ _ _ h => h) hS0 (Or.inl ⟨by rfl, fun w hSw => ?_⟩) ?_
        rotate_left
        · (try dsimp only at hSw)
          go_simp
          try with_reducible rfl
        simp only [Act.put, List.setIfInBounds_toArray, List.set_cons_zero, List.set_cons_succ]
        refine wpT_take (i := 7) (v := ?_) rfl (by kernel_rfl) (by kernel_rfl) (by kernel_rfl) (by kernel_rfl) (fun _ _ _ h => h) hS0 (Or.inl ⟨by rfl, fun w hSw => ?_⟩) ?_
        rotate_left
        · (try dsimp only at hSw)
          go_simp
          try with_reducible rfl
        simp only [Act.put, List.setIfInBounds_toArray, List.set_cons_zero, List.set_cons_succ]
        refine wpT_take (i := 9) (v := ?_) rfl (by kernel_rfl) (by kernel_rfl) (by kernel_rfl) (by kernel_rfl) (fun _ _ _ h => h) hS0 (Or.inl ⟨by rfl, fun w hSw => ?_⟩) ?_
        rotate_left
        · (try dsimp only at hSw)
          go_simp
          try with_reducible rfl
        simp only [Act.put, List.setIfInBounds_toArray, List.set_cons_zero, List.set_cons_succ]
        refine wpT_take (i := 10) (v := ?_) rfl (by kernel_rfl) (by kernel_rfl) (by kernel_rfl) (by kernel_rfl) (fun _ _ _ h => h) hS0 (Or.inl ⟨by rfl, fun w hSw => ?_⟩) ?_
        rotate_left
        · (try dsimp only at hSw)
          go_simp
          try with_reducible rfl
        simp only [Act.put, List.setIfInBounds_toArray, List.set_cons_zero, List.set_cons_succ]
        refine wpT_take (i := 11) (v := ?_) rfl (by kernel_rfl) (by kernel_rfl) (by kernel_rfl) (by kernel_rfl) (fun _ _ _ h => h) hS0 (Or.inl ⟨by rfl, fun w hSw => ?_⟩) ?_
        rotate_left
        · (try dsimp only at hSw)
          go_simp
          try with_reducible rfl
        simp only [Act.put, List.setIfInBounds_toArray, List.set_cons_zero, List.set_cons_succ]
        refine wpT_take (i := 12) (v := ?_) rfl (by kernel_rfl) (by kernel_rfl) (by kernel_rfl) (by kernel_rfl) (fun _ _ _ h => h) hS0 (Or.inl ⟨by rfl, fun w hSw => ?_⟩) ?_
        rotate_left
        · (try dsimp only at hSw)
          go_simp
          try with_reducible rfl
        simp only [Act.put, List.setIfInBounds_toArray, List.set_cons_zero, List.set_cons_succ]
        refine wpT_take (i := 13) (v := ?_) rfl (by kernel_rfl) (by kernel_rfl) (by kernel_rfl) (by kernel_rfl) (fun _ _ _ h => h) hS0 (Or.inl ⟨by rfl, fun w hSw => ?_⟩) ?_
        rotate_left
        · (try dsimp only at hSw)
          go_simp
          try with_reducible rfl
        simp only [Act.put, List.setIfInBounds_toArray, List.set_cons_zero, List.set_cons_succ]
        refine wpT_take (i := 14) (v := ?_) rfl (by kernel_rfl) (by kernel_rfl) (by kernel_rfl) (by kernel_rfl) (fun _ _ _ h => h) hS0 (Or.inl ⟨by rfl, fun w hSw => ?_⟩) ?_
        rotate_left
        · (try dsimp only at hSw)
          go_simp
          try with_reducible rfl
        simp only [Act.put, List.setIfInBounds_toArray, List.set_cons_zero, List.set_cons_succ]
        refine wpT_take (i := 15) (v := ?_) rfl (by kernel_rfl) (by kernel_rfl) (by kernel_rfl) (by kernel_rfl) (fun _ _ _ h => h) hS0 (Or.inl ⟨by rfl, fun w hSw => ?_⟩) ?_
        rotate_left
        · (try dsimp only at hSw)
          go_simp
          try with_reducible rfl
        simp only [Act.put, List.setIfInBounds_toArray, List.set_cons_zero, List.set_cons_succ]
        clear ho3 hc3
        refine wpT_one (i := 1) (by kernel_rfl) rfl (fun K hK => ?_)
        go_simp
        refine hK.out _ (w.drew.alloc (.cells #[] 84)) k1 ?_
        clear hK K
        refine wpT_one (i := 8) (by kernel_rfl) rfl (fun K hK => ?_)
        refine step_append_go rfl (.tmp 26) (.tmp 32) 46 46 rfl _ _ rfl rfl R1.out ?_
        simp only [Act.put, List.setIfInBounds_toArray, List.set_cons_zero, List.set_cons_succ]
        refine hK.out _ _ k2 ?_
        clear hK K
        refine wpT_one (i := 16) (by kernel_rfl) rfl (fun K hK => ?_)
        refine step_append_go rfl (.tmp 33) (.tmp 40) 46 46 rfl _ _ rfl rfl R3.out ?_
        simp only [Act.put, List.setIfInBounds_toArray, List.set_cons_zero, List.set_cons_succ]
        refine hK.out _ _ k4 ?_
        clear hK K
        refine wpT_one (i := 17) (by kernel_rfl) rfl (fun K hK => ?_)
        go_simp
        refine hK.out _ _ k4 ?_
        clear hK K
        refine wpT_one (i := 18) (by kernel_rfl) rfl (fun K hK => ?_)
        go_simp
        refine hK.out _ _ k4 ?_
        clear hK K
        refine wpT_last (by kernel_rfl) rfl (by kernel_rfl) (fun K hK => ?_)
        go_simp
        refine hK.out _ _ ?_
        clear hK K R1 R3
        obtain ⟨hw5, hch5⟩ := ref_store h hF4 O4 (fun k5 h5 => by
          rcases N4 with e | e
          · rw [e] at h5; exact S0 k5 h5
          · rw [e] at h5; cases h5; exact hF2.size)
        go_wp2
        go_ret
        exact ⟨by rw [HC.out]; rfl, _, by rw [HF2.out]; exact hw5, hch5⟩
      · have HD := Lib.hid hd
        have hdb : ((L[k]).d == d) = false := by simpa using hd
        clear hd
        go_wp2
        go_roundw
        case rel =>
          refine ⟨k + 1, by omega, by go_num, by first | rfl | trivial, fun j hj hjk => ?_⟩
          by_cases e : j = k
          · subst e; exact HD.out
          · exact HN.out j hj (by omega)
        case measure => simp [intOf]; omega
    · have HE : Hid (ixD d L = L.length) := ixD_none (fun j hj => HN.out j hj (by omega))
      have HC : Hid (cancB d L = false) := by show _ = _; unfold cancB; rw [HE.out]; exact decide_eq_false (by omega)
      have HF : Hid (delF d L = L) := delF_none (by rw [HE.out]; omega)
      go_wp2
      go_ret
      exact ⟨by rw [HC.out]; rfl, _, by rw [HF.out]; exact h, Ch.refl _ _ _⟩
end
end Go.Proofs.YtkfedihaldpgmaaGreat
