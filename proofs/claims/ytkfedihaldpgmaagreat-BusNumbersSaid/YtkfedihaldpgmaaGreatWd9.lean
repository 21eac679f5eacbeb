/-
  Chapter 9: Delete of the library at events; drop, Cancel, Take, All of package wheel.
-/
import Derived.Test.YtkfedihaldpgmaaGreatWf9
import Derived.StillTailTactics
namespace Go.Proofs.YtkfedihaldpgmaaGreat
open Go.RowKit
set_option linter.unusedVariables false
set_option linter.unusedSimpArgs false

/-! a builtin whose run is known -/
section
variable {P : Program} {w w' : World} {ops : Array Oper} {rest : List Oper} {o : Oper} {a : Act} {K : Act → World → Prop} {Q : Exit → Act → World → Prop}
theorem wp_bi2 {B : Builtin} (run : Array TypeId → TypeId → Array Value → Sem Value) (hB : ∀ ats ty cs args, builtin B ats ty cs args = (do pure (.value (← run ats ty args)))) (d s : Operand) (t t' : TypeId)
    (ho : o.op = .call { callee := .builtin B, args := #[d, s], argTypes := #[t, t'] }) (v u : Value) (hd : a.eval d = v) (hs : a.eval s = u) {v' : Value}
    (hr : (run #[t, t'] o.type #[v, u]).run P w = .ok v' w') (h : K (a.put o.dst v') w') : o.wp P a w K Q := by
  unfold Oper.wp execOp
  simp only [ho, resolve, invoke, hB, Sem.run_bind, Sem.run_pure, Result.andThen_ok, List.map_toArray, List.map_cons, List.map_nil, hd, hs, hr]
  exact h
theorem wp_bi1 {B : Builtin} (run : Array TypeId → TypeId → Array Value → Sem Value) (hB : ∀ ats ty cs args, builtin B ats ty cs args = (do pure (.value (← run ats ty args)))) (d : Operand) (t : TypeId)
    (ho : o.op = .call { callee := .builtin B, args := #[d], argTypes := #[t] }) (v : Value) (hd : a.eval d = v) {v' : Value}
    (hr : (run #[t] o.type #[v]).run P w = .ok v' w') (h : K (a.put o.dst v') w') : o.wp P a w K Q := by
  unfold Oper.wp execOp
  simp only [ho, resolve, invoke, hB, Sem.run_bind, Sem.run_pure, Result.andThen_ok, List.map_toArray, List.map_cons, List.map_nil, hd, hr]
  exact h
theorem wpList_append_go (hgd : o.guard = none) (d s : Operand) (t t' : TypeId) (ho : o.op = .call { callee := .builtin .append, args := #[d, s], argTypes := #[t, t'] }) (v u : Value) (hd : a.eval d = v) (hs : a.eval s = u) {v' : Value}
    (hr : (Builtin.append_ #[t, t'] o.type #[v, u]).run P w = .ok v' w') (h : wpList P ops Q rest (a.put o.dst v') w') : wpList P ops Q (o :: rest) a w :=
  wpList_plain hgd fun _ hK => wp_bi2 Builtin.append_ (fun _ _ _ _ => rfl) d s t t' ho v u hd hs hr (hK _ _ h)
theorem wpList_copy_go (hgd : o.guard = none) (d s : Operand) (t t' : TypeId) (ho : o.op = .call { callee := .builtin .copy, args := #[d, s], argTypes := #[t, t'] }) (v u : Value) (hd : a.eval d = v) (hs : a.eval s = u) {v' : Value}
    (hr : (Builtin.copy_ #[t, t'] o.type #[v, u]).run P w = .ok v' w') (h : wpList P ops Q rest (a.put o.dst v') w') : wpList P ops Q (o :: rest) a w :=
  wpList_plain hgd fun _ hK => wp_bi2 Builtin.copy_ (fun _ _ _ _ => rfl) d s t t' ho v u hd hs hr (hK _ _ h)
theorem wpList_clear_go (hgd : o.guard = none) (d : Operand) (t : TypeId) (ho : o.op = .call { callee := .builtin .clear, args := #[d], argTypes := #[t] }) (v : Value) (hd : a.eval d = v) {v' : Value}
    (hr : (Builtin.clear_ #[t] o.type #[v]).run P w = .ok v' w') (h : wpList P ops Q rest (a.put o.dst v') w') : wpList P ops Q (o :: rest) a w :=
  wpList_plain hgd fun _ hK => wp_bi1 Builtin.clear_ (fun _ _ _ _ => rfl) d t ho v hd hr (hK _ _ h)
end

theorem spl_take (cs : List Value) (o : Nat) (news : List Value) (k : Nat) (ho : o ≤ cs.length) (hk : k ≤ o) : (spl cs o news).take k = cs.take k := by
  unfold spl
  rw [List.append_assoc, List.take_append_of_le_length (by simp; omega), List.take_take]
  congr 1
  omega
theorem spl_take2 (cs : List Value) (o : Nat) (news : List Value) (ho : o ≤ cs.length) : (spl cs o news).take (o + news.length) = cs.take o ++ news := by
  unfold spl
  rw [show o + news.length = (cs.take o ++ news).length by simp; omega]
  exact List.take_left
theorem erase_eq (L : List Ev) (i : Nat) : L.eraseIdx i = L.take i ++ L.drop (i + 1) := List.eraseIdx_eq_take_drop_succ L i

theorem setRow_drew (w : World) (g : Nat) (u : Array Value) : (w.setRow g u).drew = w.drew.setRow g u := rfl
set_option maxHeartbeats 1000000 in
set_option maxRecDepth 100000 in
theorem delete_any {w : World} {b c i : Nat} {L : List Ev} (h : Ow w (.slice (some ⟨b, 0, none⟩) L.length c) L) (hi : i < L.length) (hc : L.length ≤ 1000000) :
    Calls Tryz.prog 83 #[.slice (some ⟨b, 0, none⟩) L.length c, .int .i64 i, .int .i64 (i + 1)] w fun e w' => e = .returned (.slice (some ⟨b, 0, none⟩) (L.eraseIdx i).length c) ∧ Ow w' (.slice (some ⟨b, 0, none⟩) (L.eraseIdx i).length c) (L.eraseIdx i) ∧ Fr (fun k => k = b) w w' := by
  obtain ⟨cs, hR, ht, hn⟩ := Rw.of h
  have hcm := hR.max
  unfold maxLen at hcm
  obtain ⟨m, HN⟩ : ∃ m, Hid (L.length = m + 1) := ⟨L.length - 1, by show _ = _; omega⟩
  have HL : Hid ((L.eraseIdx i).length = m) := by show _ = _; rw [List.length_eraseIdx, if_pos hi, HN.out]; rfl
  have hin : i < m + 1 := by rw [← HN.out]; exact hi
  have hnc : m + 1 ≤ c := by rw [← HN.out]; exact hn
  have hnb : m + 1 ≤ 1000000 := by rw [← HN.out]; exact hc
  have HR0 : ∀ o k : Nat, (i < m → o = (i + 1) * 3) → Hid ((Builtin.append_ #[46, 46] 46 #[.slice (some ⟨b, 0, none⟩) i c, .slice (some ⟨b, o, none⟩) (m - i) k]).run Tryz.prog w.drew = .ok (.slice (some ⟨b, 0, none⟩) m c) (w.drew.setRow b (spl cs (i * 3) (evs (L.drop (i + 1)))).toArray)) := fun o k ho => by
    have := run_append_in (w := w.drew) (ty := 46) (n := i) (m := m - i) (news := evs (L.drop (i + 1))) ⟨hR.hp, hR.len, hR.max⟩ b o k (by rw [evs_len, List.length_drop, HN.out]; omega) (fun j u hu => by
      have hj : j < (evs (L.drop (i + 1))).length := (List.getElem?_eq_some_iff.1 hu).1
      rw [evs_len, List.length_drop, HN.out] at hj
      rw [evs_drop, List.getElem?_drop] at hu
      rw [ho (by omega)]
      exact h.cell _ _ hu) (evs_one _) (by omega)
    rwa [show i + (m - i) = m by omega] at this
  have hd : (evs (L.drop (i + 1))).length = (m - i) * 3 := by rw [evs_len, List.length_drop, HN.out]; omega
  have hlen := hR.len
  have hR1 : Rw (w.drew.setRow b (spl cs (i * 3) (evs (L.drop (i + 1)))).toArray) b c (spl cs (i * 3) (evs (L.drop (i + 1)))) := Rw.set (w := w.drew) ⟨hR.hp, hR.len, hR.max⟩ _ _ (by rw [hd]; omega)
  have hF1 : Fr (fun k => k = b) w (w.drew.setRow b (spl cs (i * 3) (evs (L.drop (i + 1)))).toArray) := ((Fr.refl (fun k => k = b) w).drew).trans (fr_setRow w.drew b _)
  have hT1 : Hid ((spl cs (i * 3) (evs (L.drop (i + 1)))).take (m * 3) = evs (L.eraseIdx i)) := by
    show _ = _
    rw [show m * 3 = i * 3 + (evs (L.drop (i + 1))).length by rw [hd]; omega, spl_take2 _ _ _ (by omega), erase_eq, evs_append]
    congr 1
    rw [evs_take, ← ht, List.take_take]
    congr 1
    have := HN.out; omega
  go_enter Tryz.func83, Tryz.ntmps83
  rw [HN.out, HL.out]
  clear h hR ht hn hi hc hd hlen
  have f1 : ((i : Int) + 1).toNat = i + 1 := by omega
  have f2 : (0 : Int) ≤ (i : Int) + 1 := by omega
  have f3 : (i : Int) + 1 ≤ (m : Int) + 1 := by omega
  have f4 : (i : Int) ≤ c := by omega
  have f6 : (i : Int) ≤ (i : Int) + 1 := by omega
  have f7 : i ≤ m := by omega
  have f8 : (i : Int) ≤ (m : Int) := by omega
  have f9 : m + 1 - (i + 1) = m - i := by omega
  have f10 : (m : Int) + 1 ≤ c := by omega
  have f11 : ((m : Int) + 1).toNat = m + 1 := by omega
  obtain ⟨cs1, HC1⟩ : ∃ cs1, Hid (spl cs (i * 3) (evs (L.drop (i + 1))) = cs1) := ⟨_, rfl⟩
  rw [HC1.out] at hR1 hF1 hT1
  by_cases f5 : c = i + 1
  · have R0 := HR0 0 0 (by omega)
    rw [HC1.out] at R0
    clear HR0 HC1
    obtain rfl : i = m := by omega
    subst f5
    rw [Nat.sub_self] at R0
    go_wp2_with fail
    go_still_tail 6, (by kernel_rfl)
    change wpList _ _ _ _ _ w.drew
    refine wpList_append_go rfl (.tmp 22) (.tmp 25) 46 46 rfl _ _ rfl rfl R0.out ?_
    have hc2 := run_clear_in (ty := 0) hR1 (o := i * 3) (i + 1 - i) (by omega)
    have hR2 := hR1.set (i * 3) [.int .i64 0, .int .i64 0, .int .i64 0] (by have := hR1.len; simp; omega)
    have hF2 := hF1.trans (fr_setRow _ b (spl cs1 (i * 3) [.int .i64 0, .int .i64 0, .int .i64 0]).toArray)
    have hT2 : Hid ((spl cs1 (i * 3) [.int .i64 0, .int .i64 0, .int .i64 0]).take (i * 3) = evs (L.eraseIdx i)) := by
      show _ = _
      rw [spl_take _ _ _ _ (by have := hR1.len; omega) (by omega)]
      exact hT1.out
    generalize w.drew.setRow b cs1.toArray = W1 at hR1 hF1 hc2 hR2 hF2 ⊢
    clear R0 hR1 hF1 hT1
    rw [show i + 1 - i = 1 by omega] at hc2
    go_wp2_with (at_builtin; refine wpList_clear_go rfl (.tmp 31) 46 rfl _ rfl hc2 ?_)
    clear hc2
    go_wp2
    go_ret
    have e := HL.out
    have hO := Rw.ow (L := L.eraseIdx i) hR2 (by omega) (by rw [e]; exact hT2.out)
    rw [e] at hO
    exact ⟨rfl, hO, hF2⟩
  · have R0 := HR0 ((i + 1) * 3) (c - (i + 1)) (fun _ => rfl)
    rw [HC1.out] at R0
    clear HR0 HC1
    go_wp2_with fail
    go_still_tail 6, (by kernel_rfl)
    change wpList _ _ _ _ _ w.drew
    refine wpList_append_go rfl (.tmp 22) (.tmp 25) 46 46 rfl _ _ rfl rfl R0.out ?_
    have hc2 := run_clear_in (ty := 0) hR1 (o := m * 3) (c - m) (by omega)
    have hR2 := hR1.set (m * 3) [.int .i64 0, .int .i64 0, .int .i64 0] (by have := hR1.len; simp; omega)
    have hF2 := hF1.trans (fr_setRow _ b (spl cs1 (m * 3) [.int .i64 0, .int .i64 0, .int .i64 0]).toArray)
    have hT2 : Hid ((spl cs1 (m * 3) [.int .i64 0, .int .i64 0, .int .i64 0]).take (m * 3) = evs (L.eraseIdx i)) := by
      show _ = _
      rw [spl_take _ _ _ _ (by have := hR1.len; omega) (by omega)]
      exact hT1.out
    generalize w.drew.setRow b cs1.toArray = W1 at hR1 hF1 hc2 hR2 hF2 ⊢
    clear R0 hR1 hF1 hT1
    go_wp2_with (at_builtin; refine wpList_clear_go rfl (.tmp 31) 46 rfl _ rfl hc2 ?_)
    clear hc2
    go_wp2
    go_ret
    have e := HL.out
    have hO := Rw.ow (L := L.eraseIdx i) hR2 (by omega) (by rw [e]; exact hT2.out)
    rw [e] at hO
    exact ⟨rfl, hO, hF2⟩
end Go.Proofs.YtkfedihaldpgmaaGreat
