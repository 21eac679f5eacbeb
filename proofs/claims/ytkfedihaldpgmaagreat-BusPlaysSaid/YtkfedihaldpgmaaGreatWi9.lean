/-
  Chapter 9: Insert of the library at events: at the end, in a new row, in its place.
-/
import Derived.Test.YtkfedihaldpgmaaGreatWc9
namespace Go.Proofs.YtkfedihaldpgmaaGreat
open Go.RowKit
set_option linter.unusedVariables false
set_option linter.unusedSimpArgs false

theorem spl_a (cs : List Value) (o : Nat) (x D : List Value) (hx : x.length = 3) (ho : o + 3 ≤ cs.length) : (spl (spl cs o x) (o + 3) D).take (o + 3 + D.length) = cs.take o ++ (x ++ D) := by
  have h2 := spl_take2 cs o x (by omega)
  rw [hx] at h2
  rw [spl_take2 _ _ _ (by rw [spl_len _ _ _ (by omega)]; exact ho), h2, List.append_assoc]
theorem spl_b (cs : List Value) (o : Nat) (x D : List Value) (hx : x.length = 3) (ho : o + 3 + D.length ≤ cs.length) : (spl (spl cs (o + 3) D) o x).take (o + 3 + D.length) = cs.take o ++ (x ++ D) := by
  have h1 : (spl cs (o + 3) D).take o = cs.take o := spl_take _ _ _ _ (by omega) (by omega)
  have h2 : (spl cs (o + 3) D).drop (o + 3) = D ++ cs.drop (o + 3 + D.length) := by
    unfold spl
    rw [List.append_assoc, List.drop_append_of_le_length (by simp; omega), List.drop_eq_nil_of_le (by simp; omega), List.nil_append]
  have h3 : spl (spl cs (o + 3) D) o x = (cs.take o ++ (x ++ D)) ++ cs.drop (o + 3 + D.length) := by
    show (spl cs (o + 3) D).take o ++ x ++ (spl cs (o + 3) D).drop (o + x.length) = _
    rw [hx, h1, h2]
    simp
  rw [h3, show o + 3 + D.length = (cs.take o ++ (x ++ D)).length by simp; omega]
  exact List.take_left
theorem Ev.cells_len (e : Ev) : e.cells.length = 3 := rfl
theorem Ev.cells_one (e : Ev) : ∀ u ∈ e.cells, u.oneCell' = true := by intro u hu; simp [Ev.cells] at hu; rcases hu with rfl | rfl | rfl <;> rfl
theorem evs_ins (L : List Ev) (i : Nat) (e : Ev) : evs (insF L i e) = evs (L.take i) ++ (e.cells ++ evs (L.drop i)) := by unfold insF; rw [evs_append, evs_cons]
theorem sz_ev : ∀ w, (Go.sizeOf 84).run Tryz.prog w = .ok 3 w := by
  intro w
  obtain ⟨i0, hi, hi3⟩ := Option.map_eq_some_iff.1 size_ev
  have hi3 : i0.size = 3 := hi3
  simp [sizeOf, typeInfo, hi, hi3]
theorem Rw.shape {w : World} {g cap : Nat} {cs : List Value} (h : Rw w g cap cs) : w.shape? g = some (84, cap * 3) := by simp [World.shape?, h.hp, h.len]
theorem Rw.frozen {w : World} {g cap : Nat} {cs : List Value} (h : Rw w g cap cs) (j : Nat) : w.frozen? ⟨g, j, none⟩ = false := by simp [World.frozen?, h.hp]
theorem overlaps_no {w : World} {b c X o : Nat} {cs : List Value} {e : Ev} (hb : Rw w b c cs) (hX : Rw w X 1 e.cells) (hne : X ≠ b) (hc : 0 < c) (lb cb : Nat) :
    (callFunc 118 #[.slice (some ⟨X, 0, none⟩) 1 1, .slice (some ⟨b, o, none⟩) lb cb]).run Tryz.prog w = .ok (.value (.bool false)) w := by
  rw [run_callFunc_extern Tryz.func118 (by kernel_rfl) (by kernel_rfl) (by kernel_rfl) (e := Extern.SlicesOverlaps.overlaps #[46, 46] #[4]) (by kernel_rfl),
    Lib.run_overlaps_apart w 46 4 84 Tryz.underlying46 3 sz_ev ⟨X, 0, none⟩ ⟨b, o, none⟩ 1 1 lb cb hne _ _ _ _ hX.shape hb.shape (by omega) (hX.frozen 0) (hX.frozen _)]
  rfl
/-- what Insert leaves -/
def InsP (w : World) (v : Value) (L2 : List Ev) (e : Ending) (w' : World) : Prop :=
  ∃ v', e = .returned v' ∧ Ow w' v' L2 ∧ Fr (fun k => v.ownBlock = some k) w w' ∧ (∀ k, v'.ownBlock = some k → v.ownBlock = some k ∨ w.heap.size ≤ k)

set_option maxRecDepth 100000 in
set_option maxHeartbeats 1000000 in
theorem insert_end {w : World} {v : Value} {L : List Ev} {X : Nat} {e : Ev} (h : Ow w v L) (hX : Rw w X 1 e.cells) (hl : L.length ≤ 999999) :
    Calls Tryz.prog 115 #[v, .int .i64 L.length, .slice (some ⟨X, 0, none⟩) 1 1] w (InsP w v (insF L L.length e)) := by
  have hxs : Sh w (.slice (some ⟨X, 0, none⟩) 1 1) [e] := .inr ⟨X, 0, 1, rfl, fun j u hu => by rw [Nat.zero_add, hX.cell]; exact hu⟩
  obtain ⟨v', w1, hr, hO, hF, hn⟩ := run_append_ev (w := w) (L := L) (M := [e]) 46 h hxs (by simp; omega)
  have HI : Hid (insF L L.length e = L ++ [e]) := by show _ = _; simp [insF]
  have HO := Lib.hid hO
  have HN := Lib.hid hn
  obtain ⟨A, c, rfl, hc, hcm, hz, hA⟩ := h.form
  obtain ⟨n, HL⟩ : ∃ n, Hid (L.length = n) := ⟨_, rfl⟩
  rw [HL.out] at hr hc hl hF HI HN ⊢
  clear hA hz hO hn hX hxs
  by_cases f5 : c = n
  all_goals
    go_enter Tryz.func115, Tryz.ntmps115
    try subst f5
    go_wp2_with (at_builtin; refine wpList_append_go rfl (.tmp 23) (.tmp 24) 46 46 rfl _ _ rfl rfl hr ?_)
    go_ret
    refine ⟨v', rfl, by rw [HI.out]; exact HO.out, hF, fun k hk => ?_⟩
    rcases HN.out with e | e
    · exact .inl (by rw [e] at hk; exact hk)
    · rw [e] at hk; cases hk; exact .inr (Nat.le_refl _)

set_option maxRecDepth 100000 in
set_option maxHeartbeats 2000000 in
theorem insert_in {w : World} {b c i X : Nat} {L : List Ev} {e : Ev} (h : Ow w (.slice (some ⟨b, 0, none⟩) L.length c) L) (hX : Rw w X 1 e.cells) (hne : X ≠ b) (hi : i < L.length) (hr : L.length < c) (hl : L.length ≤ 999999) :
    Calls Tryz.prog 115 #[.slice (some ⟨b, 0, none⟩) L.length c, .int .i64 i, .slice (some ⟨X, 0, none⟩) 1 1] w (InsP w (.slice (some ⟨b, 0, none⟩) L.length c) (insF L i e)) := by
  obtain ⟨cs, hR, ht, hn⟩ := Rw.of h
  have hcm := hR.max
  unfold maxLen at hcm
  obtain ⟨n, HL⟩ : ∃ n, Hid (L.length = n) := ⟨_, rfl⟩
  have HI : Hid ((insF L i e).length = n + 1) := by show _ = _; rw [insF_len _ _ _ (by omega), HL.out]
  have hd : (evs (L.drop i)).length = (n - i) * 3 := by rw [evs_len, List.length_drop, HL.out]
  rw [HL.out] at hi hr hl ht ⊢
  have hlen := hR.len
  have hR' : Rw w.drew b c cs := ⟨hR.hp, hR.len, hR.max⟩
  have r1 := Lib.hid (run_copy_in (w := w.drew) (ty := 3) (o := (i + 1) * 3) (m := n - i) (news := evs (L.drop i)) hR' (n - i) (c - (i + 1)) (n + 1 - i) (c - i) b (i * 3) (by simp only [Nat.min_def]; split <;> omega) hd (fun j u hu => by
    rw [evs_drop, List.getElem?_drop] at hu
    exact h.cell _ _ hu) (evs_one _) (by omega))
  have hR1 := hR'.set ((i + 1) * 3) (evs (L.drop i)) (by rw [hd]; omega)
  have hX1 : Rw (w.drew.setRow b (spl cs ((i + 1) * 3) (evs (L.drop i))).toArray) X 1 e.cells := Rw.fr (w := w.drew) ⟨hX.hp, hX.len, hX.max⟩ (fr_setRow w.drew b _) hne
  have hF1 : Fr (fun k => k = b) w (w.drew.setRow b (spl cs ((i + 1) * 3) (evs (L.drop i))).toArray) := ((Fr.refl (fun k => k = b) w).drew).trans (fr_setRow w.drew b _)
  have r2 := Lib.hid (run_copy_in (ty := 3) (o := i * 3) (m := 1) (news := e.cells) hR1 (n + 1 - i) (c - i) 1 1 X 0 (by simp only [Nat.min_def]; split <;> omega) rfl (fun j u hu => by rw [Nat.zero_add, hX1.cell]; exact hu) e.cells_one (by omega))
  have hR2 := hR1.set (i * 3) e.cells (by rw [hR1.len, e.cells_len]; omega)
  have hF2 := hF1.trans (fr_setRow _ b (spl (spl cs ((i + 1) * 3) (evs (L.drop i))) (i * 3) e.cells).toArray)
  have hT2 : Hid ((spl (spl cs ((i + 1) * 3) (evs (L.drop i))) (i * 3) e.cells).take ((n + 1) * 3) = evs (insF L i e)) := by
    show _ = _
    rw [show (i + 1) * 3 = i * 3 + 3 by omega, show (n + 1) * 3 = i * 3 + 3 + (evs (L.drop i)).length by rw [hd]; omega, spl_b _ _ _ _ rfl (by rw [hd]; omega), evs_ins]
    congr 1
    rw [evs_take, ← ht, List.take_take]
    congr 1
    omega
  have hov := fun lb cb => overlaps_no (o := (i + 1) * 3) hR hX hne (by omega) lb cb
  obtain ⟨cs1, HC1⟩ : ∃ cs1, Hid (spl cs ((i + 1) * 3) (evs (L.drop i)) = cs1) := ⟨_, rfl⟩
  rw [HC1.out] at r1 hR1 r2 hR2 hF2 hT2
  have f1 : ((i : Int) + 1).toNat = i + 1 := by omega
  have f2 : (0 : Int) ≤ (i : Int) + 1 := by omega
  have f3 : (i : Int) + 1 ≤ (n : Int) + 1 := by omega
  have f4 : (i : Int) ≤ (n : Int) + 1 := by omega
  have f5 : ¬ (c = i) := by omega
  have f6 : ¬ (c = i + 1) := by omega
  have f7 : ((i : Int) == (n : Int)) = false := beq_false_of_ne (by omega)
  have f8 : decide ((c : Int) < (n : Int) + 1) = false := by simp; omega
  have f9 : n + 1 - (i + 1) = n - i := by omega
  have f12 : IntKind.i64.wrap ((i : Int) + 1) = (i : Int) + 1 := by rw [IntKind.wrap_i64]; omega
  have f10 : ((n : Int) + 1).toNat = n + 1 := by omega
  have f11 : (n : Int) + 1 ≤ c := by omega
  clear h hX hR hR' ht hn hd hlen hX1 hF1 HC1 hR1
  go_enter Tryz.func115, Tryz.ntmps115
  go_wp2_with (simp only [hov])
  go_still_tail 8, (by kernel_rfl)
  change wpList _ _ _ _ _ w.drew
  refine wpList_copy_go rfl (.tmp 73) (.tmp 76) 46 46 rfl _ _ rfl rfl r1.out ?_
  generalize w.drew.setRow b cs1.toArray = W1 at r2 hR2 hF2 ⊢
  clear r1
  have q2 := r2.out
  clear r2
  go_wp2
  go_ret
  have e2 := HI.out
  have hO := Rw.ow (L := insF L i e) hR2 (by omega) (by rw [e2]; exact hT2.out)
  rw [e2] at hO
  exact ⟨_, rfl, by simpa [e2] using hO, hF2.mono (fun k hk => by rw [hk]; rfl), fun k hk => .inl hk⟩

theorem zero_cells (k : Nat) : (Builtin.zeroCells (Value.cells (.agg #[.int .i64 0, .int .i64 0, .int .i64 0])) k).toList.length = k * 3 := by
  rw [Array.length_toList, size_zeroCells]; rfl
set_option maxRecDepth 100000 in
/-- the new row of an Insert that finds no room -/
theorem run_grow9 {w : World} {b c i n : Nat} {L : List Ev} (h : Ow w (.slice (some ⟨b, 0, none⟩) L.length c) L) (hi : i < L.length) (hn : L.length = n) (hc : c = n) (hl : n ≤ 999999) :
    ∃ cs W, (Builtin.append_ #[46, 3] 46 #[.slice (some ⟨b, 0, none⟩) i c, .int .i64 ((n + 1 - i : Nat) : Int)]).run Tryz.prog w = .ok (.slice (some ⟨w.heap.size, 0, none⟩) (n + 1) (grownCap w (n + 1) c 84)) W ∧
      Rw W w.heap.size (grownCap w (n + 1) c 84) cs ∧ cs.take (i * 3) = evs (L.take i) ∧ Below w.heap.size w W ∧ n + 1 ≤ grownCap w (n + 1) c 84 ∧ grownCap w (n + 1) c 84 ≤ 9223372036854775807 := by
  obtain ⟨i0, hi0, hi3⟩ := Option.map_eq_some_iff.1 info_ev
  simp only [Prod.mk.injEq] at hi3
  obtain ⟨hz0, hz1, hz2⟩ := hi3
  have e1 : i + (n + 1 - i) = n + 1 := by omega
  have hge := grownCap_ge w (n + 1) c 84
  have hle := grownCap_le_maxLen w (n + 1) c 84 (by unfold maxLen; omega)
  have hold : (Builtin.firstCells i0.size i (.slice (some ⟨b, 0, none⟩) i c)).run Tryz.prog w.drew = .ok (evs (L.take i)).toArray w.drew := by
    rw [hz1]
    exact run_firstCells_some w.drew 3 i ⟨b, 0, none⟩ i c (evs (L.take i)) (by rw [evs_len, List.length_take]; omega) (fun j u hu => by
      rw [Addr.add_lit, Nat.zero_add]
      rw [evs_take, List.getElem?_take] at hu
      split at hu
      · exact h.cell j u hu
      · cases hu)
  have hr := Lib.run_append_grow_zeros w 46 3 46 84 i0 _ .i64 .i64 Tryz.underlying46 Tryz.underlying3 hi0 hz0 (some ⟨b, 0, none⟩) i c (evs (L.take i)) hold (n + 1 - i) (by omega) (by omega) (by omega) (by omega) (by rw [hz2]; omega) (by rw [hz2, e1]; exact growslice_fits (by omega) (by omega))
  rw [e1] at hr
  generalize grownCap w (n + 1) c 84 = G at hr hge hle ⊢
  refine ⟨evs (L.take i) ++ ((Builtin.zeroCells (Value.cells (.agg #[.int .i64 0, .int .i64 0, .int .i64 0])) (n + 1 - i)).toList ++ (Builtin.zeroCells (Value.cells (.agg #[.int .i64 0, .int .i64 0, .int .i64 0])) (G - (n + 1))).toList), _, hr, ⟨?_, ?_, hle⟩, ?_, (((Below.refl w.heap.size w).drew).alloc (Nat.le_refl _) _), hge, by unfold maxLen at hle; omega⟩
  · rw [show w.heap.size = w.drew.heap.size from rfl, heap_alloc_new]
    congr 2
    apply Array.ext'
    simp
  · rw [List.length_append, List.length_append, zero_cells, zero_cells, evs_len, List.length_take]
    omega
  · rw [List.take_append_of_le_length (by rw [evs_len, List.length_take]; omega), List.take_of_length_le (by rw [evs_len, List.length_take]; omega)]
set_option maxRecDepth 100000 in
set_option maxHeartbeats 2000000 in
theorem insert_grow {w : World} {b c i X : Nat} {L : List Ev} {e : Ev} (h : Ow w (.slice (some ⟨b, 0, none⟩) L.length c) L) (hX : Rw w X 1 e.cells) (hi : i < L.length) (hr : c = L.length) (hl : L.length ≤ 999999) :
    Calls Tryz.prog 115 #[.slice (some ⟨b, 0, none⟩) L.length c, .int .i64 i, .slice (some ⟨X, 0, none⟩) 1 1] w (InsP w (.slice (some ⟨b, 0, none⟩) L.length c) (insF L i e)) := by
  have hb : b < w.heap.size := Ow.lt h b rfl
  have hXl := hX.lt
  obtain ⟨n, HL⟩ : ∃ n, Hid (L.length = n) := ⟨_, rfl⟩
  have HI : Hid ((insF L i e).length = n + 1) := by show _ = _; rw [insF_len _ _ _ (by omega), HL.out]
  have hd : (evs (L.drop i)).length = (n - i) * 3 := by rw [evs_len, List.length_drop, HL.out]
  obtain ⟨cs, W, r0, hR, ht, hB, hg1, hg2⟩ := run_grow9 h hi HL.out (by rw [hr, HL.out]) (by rw [← HL.out]; exact hl)
  generalize grownCap w (n + 1) c 84 = G at r0 hR hg1 hg2
  have hcell : ∀ j u, (evs (L.drop i))[j]? = some u → w.cell? ⟨b, i * 3 + j, none⟩ = some u := fun j u hu => by
    rw [evs_drop, List.getElem?_drop] at hu
    exact h.cell _ _ hu
  rw [HL.out] at hi hr hl ⊢
  have hr2 := hr.symm
  subst hr2
  have hlen := hR.len
  have hX1 : Rw W X 1 e.cells := hX.fr (Fr.of_below (S := fun _ => False) hB) id
  have hne : X ≠ w.heap.size := by omega
  have r1 := run_copy_in (ty := 3) (o := i * 3) (m := 1) (news := e.cells) hR (n + 1 - i) (G - i) 1 1 X 0 (by simp only [Nat.min_def]; split <;> omega) rfl (fun j u hu => by rw [Nat.zero_add, hX1.cell]; exact hu) e.cells_one (by omega)
  have hR1 := hR.set (i * 3) e.cells (by rw [hlen, e.cells_len]; omega)
  have hB1 : Below w.heap.size w (W.setRow w.heap.size (spl cs (i * 3) e.cells).toArray) := hB.trans ((fr_setRow W w.heap.size _).below hB.size (fun k hk e => by omega))
  have hR1' : Rw (W.setRow w.heap.size (spl cs (i * 3) e.cells).toArray).drew w.heap.size G (spl cs (i * 3) e.cells) := ⟨hR1.hp, hR1.len, hR1.max⟩
  have r2 := Lib.hid (run_copy_in (ty := 3) (o := (i + 1) * 3) (m := n - i) (news := evs (L.drop i)) hR1' (n - i) (G - (i + 1)) (n - i) (n - i) b (i * 3) (by simp [Nat.min_def]) hd (fun j u hu => (hB1.cell (p := ⟨b, i * 3 + j, none⟩) hb).trans (hcell j u hu)) (evs_one _) (by omega))
  have hR2 := hR1'.set ((i + 1) * 3) (evs (L.drop i)) (by rw [hR1.len, hd]; omega)
  have hB2 : Below w.heap.size w ((W.setRow w.heap.size (spl cs (i * 3) e.cells).toArray).drew.setRow w.heap.size (spl (spl cs (i * 3) e.cells) ((i + 1) * 3) (evs (L.drop i))).toArray) := (hB1.drew).trans ((fr_setRow (W.setRow w.heap.size (spl cs (i * 3) e.cells).toArray).drew w.heap.size _).below hB1.size (fun k hk e => by omega))
  have hT2 : Hid ((spl (spl cs (i * 3) e.cells) ((i + 1) * 3) (evs (L.drop i))).take ((n + 1) * 3) = evs (insF L i e)) := by
    show _ = _
    rw [show (i + 1) * 3 = i * 3 + 3 by omega, show (n + 1) * 3 = i * 3 + 3 + (evs (L.drop i)).length by rw [hd]; omega, spl_a _ _ _ _ rfl (by omega), evs_ins, ht]
  have f1 : ((i : Int) + 1).toNat = i + 1 := by omega
  have f2 : (0 : Int) ≤ (i : Int) + 1 := by omega
  have f3 : (i : Int) + 1 ≤ (n : Int) + 1 := by omega
  have f4 : (i : Int) ≤ (n : Int) + 1 := by omega
  have f5 : ¬ (n = i) := by omega
  have f6 : ¬ (G = i + 1) := by omega
  have f13 : ¬ (G = i) := by omega
  have f7 : ((i : Int) == (n : Int)) = false := beq_false_of_ne (by omega)
  have f9 : n + 1 - (i + 1) = n - i := by omega
  have f12 : IntKind.i64.wrap ((i : Int) + 1) = (i : Int) + 1 := by rw [IntKind.wrap_i64]; omega
  have f14 : (i : Int) ≤ (n : Int) := by omega
  have f15 : ((n + 1 - i : Nat) : Int) = (n : Int) + 1 - (i : Int) := by omega
  rw [f15] at r0
  have R0 := Lib.hid r0
  clear h hX hR ht hd hlen hX1 hR1 hR1' hcell hB f15 hB1 r0
  go_enter Tryz.func115, Tryz.ntmps115
  go_wp2_with (at_builtin; refine wpList_append_go rfl (.tmp 34) (.tmp 39) 46 3 rfl _ _ rfl rfl R0.out ?_)
  clear R0
  go_still_tail 8, (by kernel_rfl)
  change wpList _ _ _ _ _ (W.setRow w.heap.size (spl cs (i * 3) e.cells).toArray).drew
  refine wpList_copy_go rfl (.tmp 50) (.tmp 53) 46 46 rfl _ _ rfl rfl r2.out ?_
  clear r1 r2
  generalize (W.setRow w.heap.size (spl cs (i * 3) e.cells).toArray).drew.setRow w.heap.size (spl (spl cs (i * 3) e.cells) ((i + 1) * 3) (evs (L.drop i))).toArray = W2 at hR2 hB2 ⊢
  go_wp2
  go_ret
  have e2 := HI.out
  have hO := Rw.ow (L := insF L i e) hR2 (by omega) (by rw [e2]; exact hT2.out)
  rw [e2] at hO
  exact ⟨_, rfl, by simpa [e2] using hO, Fr.of_below hB2, fun k hk => by cases hk; exact .inr (Nat.le_refl _)⟩

theorem insert_any {w : World} {v : Value} {L : List Ev} {X i : Nat} {e : Ev} (h : Ow w v L) (hX : Rw w X 1 e.cells) (hne : v.ownBlock ≠ some X) (hi : i ≤ L.length) (hl : L.length ≤ 999999) :
    Calls Tryz.prog 115 #[v, .int .i64 i, .slice (some ⟨X, 0, none⟩) 1 1] w (InsP w v (insF L i e)) := by
  by_cases e1 : i = L.length
  · subst e1
    exact insert_end h hX hl
  · obtain ⟨A, c, rfl, hc, hcm, hz, hA⟩ := h.form
    obtain ⟨b, rfl⟩ := hA (by omega)
    by_cases e2 : L.length < c
    · exact insert_in h hX (fun e => hne (by rw [e]; rfl)) (by omega) e2 hl
    · exact insert_grow h hX (by omega) (by omega) hl
end Go.Proofs.YtkfedihaldpgmaaGreat
