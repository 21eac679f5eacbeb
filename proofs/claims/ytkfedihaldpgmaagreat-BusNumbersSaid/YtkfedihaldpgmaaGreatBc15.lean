/-
  Chapter 15: the document's bus: B1 of the uart's event, in the one state.
-/
import Derived.Test.YtkfedihaldpgmaaGreatBb15
namespace Go.Proofs.YtkfedihaldpgmaaGreat
open Go.RowKit
set_option linter.unusedVariables false
set_option linter.unusedSimpArgs false
theorem app_out {w : World} {v : Value} {L : List Int} (ty : TypeId) (b : Int) (h : Ob w v L) (hm : L.length ≤ 100000) :
    ∃ v' w', (Builtin.append_ #[24, 24] ty #[v, .slice (some ⟨w.heap.size, 0, none⟩) 1 1]).run Tryz.prog (w.alloc (.cells #[.int .u8 b] 5)) = .ok v' w' ∧ w'.ownsRow 0 5 1 v' (L.length + 1) (L.map (Value.int .u8) ++ [.int .u8 b]) ∧ Fr (fun k => v.ownBlock = some k) w w' ∧ (∀ k, v'.ownBlock = some k → v.ownBlock = some k ∨ w.heap.size ≤ k) := by
  obtain ⟨i0, hi, hi3⟩ := Option.map_eq_some_iff.1 info_u8
  simp only [Prod.mk.injEq] at hi3
  obtain ⟨hz0, hz1, hz2⟩ := hi3
  have hs : (w.alloc (.cells #[.int .u8 b] 5)).heap.size = w.heap.size + 1 := Array.size_push ..
  obtain ⟨v', w', hr, h1, h2, _, h4⟩ := run_append_own_at (P := Tryz.prog) (w.alloc (.cells #[.int .u8 b] 5)) 0 24 ty 5 i0 (.int .u8 0) 1 1 Tryz.underlying24 hi hz0 hz1 hz2 rfl (by decide) v L.length (L.map (Value.int .u8)) (World.ownsRow.alloc h.1 _) ⟨w.heap.size, 0, none⟩ 1 1 [.int .u8 b] rfl
    (World.news_of_block (heap_alloc_new w _)) (by intro u hu; simp at hu; subst hu; rfl) (by unfold maxLen; omega) (by omega) (Nat.zero_le _)
  refine ⟨v', w', hr, h1, ?_, fun k hk => ?_⟩
  · have f1 : Fr (fun k => v.ownBlock = some k) w (w.alloc (.cells #[.int .u8 b] 5)) := (Fr.refl _ w).alloc _
    exact f1.trans ⟨h2.os, h2.tape, h2.output, h2.size, fun i hi hn => h2.block i hi (fun e => hn e.symm)⟩
  · rcases h4 with e | e
    · exact .inl (e ▸ hk)
    · rw [e] at hk; cases hk; exact .inr (by rw [hs]; omega)
/-- what is behind the first of one's bytes -/
theorem tail_by {w : World} {v : Value} {b : Int} {L : List Int} (h : Ob w v (b :: L)) : ∃ g c x, v = .slice (some ⟨g, 0, none⟩) (L.length + 1) c ∧ L.length + 1 ≤ c ∧ w.cell? ⟨g, 0, none⟩ = some (.int .u8 b) ∧ (∀ w2, (Instr.slice 24 v (some (.int .i64 1)) none none).run Tryz.prog w2 = .ok x w2) ∧ ByAt (fun k => v.ownBlock = some k) w x L.length (fun i => L.getD i 0) := by
  rcases h.1.2 with ⟨rfl, hn⟩ | ⟨g, cap, cur, rfl, hb, hh, hc, _⟩
  · exact absurd hn (by simp)
  · have hcell : ∀ i, i < L.length + 1 → w.cell? ⟨g, i, none⟩ = some (.int .u8 ((b :: L).getD i 0)) := by
      intro i hi
      have hi2 : i < (b :: L).length := by simpa using hi
      have := h.1.cellAt i (by simpa using hi)
      rw [this, ← range_getD, List.getElem?_map, List.getElem?_range hi2]
      rfl
    have hbd : ∀ i, 0 ≤ L.getD i 0 ∧ L.getD i 0 ≤ 255 := getD_bd (fun x hx => h.2 x (List.mem_cons_of_mem _ hx))
    have hc' : L.length + 1 ≤ cap := by simpa using hc
    have hrun : ∀ w2, (Instr.slice 24 (.slice (some ⟨g, 0, none⟩) (L.length + 1) cap) (some (.int .i64 1)) none none).run Tryz.prog w2 = .ok (.slice (some ⟨g, if cap = 1 then 0 else 1, none⟩) L.length (cap - 1)) w2 := by
      intro w2
      rw [run_slice_l (ht := und_u8) (h0 := by omega) (h1 := by omega), size1_u8]
      show Result.ok (sliced (some ⟨g, 0, none⟩) 1 (L.length + 1) cap 1) w2 = _
      unfold sliced
      by_cases e : cap = 1
      · rw [if_pos e, if_pos e, Nat.add_sub_cancel]
      · rw [if_neg e, if_neg e, Nat.add_sub_cancel]
        show Result.ok (Value.slice (some ((⟨g, 0, none⟩ : Addr).add (1 * 1))) L.length (cap - 1)) w2 = _
        rw [add_none]
    refine ⟨g, cap, _, rfl, hc', by simpa using hcell 0 (by omega), hrun, ?_⟩
    by_cases e : L.length = 0
    · refine .inr ⟨⟨g, _, none⟩, cap - 1, rfl, by omega, fun h0 => absurd h0 (by omega), fun i hi => absurd hi (by omega)⟩
    · have e1 : (if cap = 1 then 0 else 1) = 1 := if_neg (by omega)
      refine .inr ⟨⟨g, _, none⟩, cap - 1, rfl, by omega, fun _ => ⟨rfl, rfl⟩, fun i hi => ⟨?_, hbd i⟩⟩
      rw [add_none, e1, hcell (1 + i) (by omega), Nat.add_comm 1 i, List.getD_cons_succ]
section
variable {w w' : World} {m r y : Nat} {O : Nat → Prop} {p n : Nat} {V : SV} {S : BS}
/-- what went out is one byte more, in place or anew -/
theorem Bx.app (h : Bx w m r y O p n V S) {b : Int} (hb : 0 ≤ b ∧ b ≤ 255) {o2 : Value} (f : Fr (fun k => V.o.ownBlock = some k) w w') (hO : w'.ownsRow 0 5 1 o2 (S.out.length + 1) (S.out.map (Value.int .u8) ++ [.int .u8 b])) (he : ∀ k, o2.ownBlock = some k → V.o.ownBlock = some k ∨ w.heap.size ≤ k) :
    Bx (w'.setCell ⟨m, 13, none⟩ o2) m r y O p n { V with o := o2 } { S with out := S.out ++ [b] } ∧ CB m O V { V with o := o2 } w (w'.setCell ⟨m, 13, none⟩ o2) := by
  have f1 : Fr (fun k => k = m) w' (w'.setCell ⟨m, 13, none⟩ o2) := (Fr.refl (fun k => k = m) w').setCell (x := ⟨m, 13, none⟩) (.inl rfl) o2
  have hq : ∀ j k, j < 6 → 1 ≤ j → KB m O V j k → ¬ k = m := fun j k hj h1 hk e => h.sep j 0 k hj (by omega) (by omega) hk e
  have ho : ∀ j k, j < 6 → j ≠ 4 → KB m O V j k → ¬ V.o.ownBlock = some k := fun j k hj h4 hk e => h.sep j 4 k hj (by omega) h4 hk e
  have hml := h.wb.st.lt
  have hno : ∀ k, o2.ownBlock = some k → ¬ k = m := by
    intro k hk e
    rcases he k hk with e2 | e2
    · exact hq 4 k (by omega) (by omega) e2 e
    · omega
  have hwb := h.wb.fr f (fun k hk => by
    rcases hk with e | e
    · exact ho 0 k (by omega) (by omega) e
    · exact ho 1 k (by omega) (by omega) e)
  have hcases : ∀ j k, j < 6 → KB m O { V with o := o2 } j k → KB m O V j k ∨ (j = 4 ∧ w.heap.size ≤ k) := by
    intro j k hj hk
    match j, hj with
    | 0, _ => exact .inl hk
    | 1, _ => exact .inl hk
    | 2, _ => exact .inl hk
    | 3, _ => exact .inl hk
    | 4, _ => rcases he k hk with e | e
              · exact .inl e
              · exact .inr ⟨rfl, e⟩
    | 5, _ => exact .inl hk
  refine ⟨⟨(hwb.setC 13 o2 (by omega) (by omega)).congr fun j hj => ?_, (h.oc.fr f (fun k hk => ho 2 k (by omega) (by omega) hk)).fr f1 (fun k hk => hq 2 k (by omega) (by omega) hk), (h.og.fr f (fun k hk => ho 3 k (by omega) (by omega) hk)).fr f1 (fun k hk => hq 3 k (by omega) (by omega) hk), ?_, (h.mm.fr f (fun k hk => ho 5 k (by omega) (by omega) hk)).fr f1 (fun k hk => hq 5 k (by omega) (by omega) hk), h.sep.upd (B := w.heap.size) h.klt 4 hcases⟩, ⟨?_, ?_⟩⟩
  · have : j = 0 ∨ j = 1 ∨ j = 2 ∨ j = 3 ∨ j = 4 ∨ j = 5 ∨ j = 6 ∨ j = 7 ∨ j = 8 ∨ j = 9 ∨ j = 10 ∨ j = 11 ∨ j = 12 ∨ j = 13 ∨ j = 14 ∨ j = 15 ∨ j = 16 ∨ j = 17 ∨ j = 18 ∨ j = 19 ∨ j = 20 ∨ j = 21 ∨ j = 22 ∨ j = 23 ∨ j = 24 := by omega
    rcases this with rfl | rfl | rfl | rfl | rfl | rfl | rfl | rfl | rfl | rfl | rfl | rfl | rfl | rfl | rfl | rfl | rfl | rfl | rfl | rfl | rfl | rfl | rfl | rfl | rfl <;> rfl
  · have h0 : Ob w' o2 (S.out ++ [b]) := by
      refine ⟨?_, byt_snoc h.oo.2 hb⟩
      rw [List.length_append, List.map_append]
      exact hO
    exact h0.fr f1 (fun k hk => hno k hk)
  · exact (f.mono (fun k hk => ⟨4, by omega, hk⟩)).setCell (x := ⟨m, 13, none⟩) (.inl (show OwnB m O V m from ⟨0, by omega, rfl⟩)) o2
  · rintro k ⟨j, hj, hk⟩
    rcases hcases j k hj hk with e | ⟨_, e⟩
    · exact .inl ⟨j, hj, e⟩
    · exact .inr e
/-- what is to go is another list, in new memory -/
theorem Bx.newG (h : Bx w m r y O p n V S) {v : Value} {L : List Int} {wb : World} (hbw : Below w.heap.size w wb) (hv : Ob wb v L) (hnew : ∀ k, v.ownBlock = some k → w.heap.size ≤ k) :
    Bx (wb.setCell ⟨m, 10, none⟩ v) m r y O p n { V with g := v } { S with goes := L } ∧ CB m O V { V with g := v } w (wb.setCell ⟨m, 10, none⟩ v) :=
  ⟨(h.below hbw).setG hv (fun k hk e => by have := h.lt k e; have := hnew k hk; omega), CB.setG m O V w wb 10 v _ (Fr.of_below hbw) (fun k ⟨i, hi, hk⟩ => by
    match i, hi with
    | 0, _ => exact .inl ⟨0, by omega, hk⟩
    | 1, _ => exact .inl ⟨1, by omega, hk⟩
    | 2, _ => exact .inl ⟨2, by omega, hk⟩
    | 3, _ => exact .inr (hnew k hk)
    | 4, _ => exact .inl ⟨4, by omega, hk⟩
    | 5, _ => exact .inl ⟨5, by omega, hk⟩)⟩
set_option maxRecDepth 100000 in
set_option maxHeartbeats 2000000 in
theorem b1_u0 (t sq : Int) (h : Bx w m r y O p n V S) (hq : S.goes = []) :
    Calls Tryz.prog 44 #[.pointer (some ⟨m, 0, none⟩), .agg #[.int .i64 t, .int .i64 3, .int .i64 sq]] w (RetN (.tuple #[]) w m r y O p n V S) := by
  have hB : Below w.heap.size w (w.alloc (.cells #[.int .i64 t, .int .i64 3, .int .i64 sq] 84)) := (Below.refl _ _).alloc (Nat.le_refl _) _
  have h0 := h.below hB
  have hC0 : CB m O V V w (w.alloc (.cells #[.int .i64 t, .int .i64 3, .int .i64 sq] 84)) := CB.of_below hB
  have b10 := h0.b10
  obtain ⟨A, c, hv, hc⟩ := h.og.form
  rw [hv, hq] at b10
  have b10 : (w.alloc (.cells #[.int .i64 t, .int .i64 3, .int .i64 sq] 84)).cell? ⟨m, 10, none⟩ = some (.slice A 0 c) := b10
  clear hB hv hc hq
  go_enter Tryz.func44, Tryz.ntmps44
  go_wp2
  go_end0
  exact ⟨rfl, V, h0, hC0⟩
set_option maxRecDepth 100000 in
set_option maxHeartbeats 4000000 in
theorem b1_u1 (t sq b : Int) {L : List Int} (h : Bx w m r y O p n V S) (hq : S.goes = b :: L) (ho : S.out.length ≤ 60000) (hg : L.length ≤ 100) (hl : S.L.length ≤ 990000) (ha : 0 ≤ S.a ∧ S.a ≤ 1000000) (n0 : 0 ≤ t) (n1 : t ≤ 4611686018427387000) :
    Calls Tryz.prog 44 #[.pointer (some ⟨m, 0, none⟩), .agg #[.int .i64 t, .int .i64 3, .int .i64 sq]] w (RetN (.tuple #[]) w m r y O p n V (fiU t S)) := by
  have hB : Below w.heap.size w (w.alloc (.cells #[.int .i64 t, .int .i64 3, .int .i64 sq] 84)) := (Below.refl _ _).alloc (Nat.le_refl _) _
  have h0 := h.below hB
  have hx := ev_row w ⟨t, 3, sq⟩
  have hC0 : CB m O V V w (w.alloc (.cells #[.int .i64 t, .int .i64 3, .int .i64 sq] 84)) := CB.of_below hB
  have hXO : ¬ OwnB m O V w.heap.size := fun e => Nat.lt_irrefl _ (h.lt _ e)
  generalize hAe : w.alloc (.cells #[.int .i64 t, .int .i64 3, .int .i64 sq] 84) = A at h0 hx hC0
  have HAe := Lib.hid hAe
  clear hAe hB
  generalize hXe : w.heap.size = X at hx hXO
  have HXe := Lib.hid hXe
  clear hXe
  -- the queue, and what went out
  have hog := h0.og
  rw [hq] at hog
  obtain ⟨g, c, x1, hv, hcc, hc0, hs1, hby⟩ := tail_by hog
  have hbb : 0 ≤ b ∧ b ≤ 255 := hog.2 b (by simp)
  obtain ⟨oA, oc, hov, hz0⟩ := h0.oo.form
  clear hz0
  have b10 : A.cell? ⟨m, 10, none⟩ = some (.slice (some ⟨g, 0, none⟩) (L.length + 1) c) := hv ▸ h0.b10
  have b13 : A.cell? ⟨m, 13, none⟩ = some (.slice oA S.out.length oc) := hov ▸ h0.b13
  have hdo : Ob A.drew V.o S.out := h0.oo.fr ((Fr.refl (fun _ => False) A).drewN 1) (fun _ _ => id)
  obtain ⟨v2, w2, r2, O2, F2, N2⟩ := app_out 24 b hdo (by omega)
  have hdr : Bx A.drew m r y O p n V S := h0.drewN 1
  obtain ⟨h3, hC3⟩ := hdr.app hbb F2 O2 N2
  obtain ⟨oA2, oc2, rfl, hz1, hz2⟩ := own_form O2
  clear hz1 hz2
  have k1 : (A.drew.alloc (.cells #[.int .u8 b] 5)).cell? ⟨m, 13, none⟩ = some (.slice oA S.out.length oc) := hov ▸ (hdr.below ((Below.refl _ _).alloc (Nat.le_refl _) _)).b13
  have k1g : (A.drew.alloc (.cells #[.int .u8 b] 5)).cell? ⟨m, 10, none⟩ = some (.slice (some ⟨g, 0, none⟩) (L.length + 1) c) := hv ▸ (hdr.below ((Below.refl _ _).alloc (Nat.le_refl _) _)).b10
  have hgl : g < A.heap.size := hog.lt g (by rw [hv]; rfl)
  have k1c : (A.drew.alloc (.cells #[.int .u8 b] 5)).cell? ⟨g, 0, none⟩ = some (.int .u8 b) := (World.cell?_alloc_past _ _ _ hgl).trans hc0
  have hqo : ∀ j k, j < 6 → j ≠ 4 → KB m O V j k → ¬ V.o.ownBlock = some k := fun j k hj h4 hk e => h0.sep j 4 k hj (by omega) h4 hk e
  have k2 : w2.cell? ⟨m, 13, none⟩ = some (.slice oA S.out.length oc) := cell_fr F2 (hov ▸ hdr.b13) (hqo 0 m (by omega) (by omega) rfl)
  have k2g : w2.cell? ⟨m, 10, none⟩ = some (.slice (some ⟨g, 0, none⟩) (L.length + 1) c) := cell_fr F2 (hv ▸ hdr.b10) (hqo 0 m (by omega) (by omega) rfl)
  have k2c : w2.cell? ⟨g, 0, none⟩ = some (.int .u8 b) := cell_fr F2 hc0 (hqo 3 g (by omega) (by omega) (by show V.g.ownBlock = some g; rw [hv]; rfl))
  have hS0 : (fun W : World => W.cell? ⟨m, 13, none⟩ = some (.slice oA S.out.length oc) ∧ W.cell? ⟨m, 10, none⟩ = some (.slice (some ⟨g, 0, none⟩) (L.length + 1) c) ∧ W.cell? ⟨g, 0, none⟩ = some (.int .u8 b)) A.drew := ⟨hov ▸ hdr.b13, hv ▸ hdr.b10, hc0⟩
  have kz : w2.frozen? ⟨m, 13, none⟩ = false := ((hdr.wb.fr F2 (fun k hk => by
    rcases hk with e | e
    · exact hqo 0 k (by omega) (by omega) e
    · exact hqo 1 k (by omega) (by omega) e)).st).frozen 13
  rw [hov] at r2
  have R2 := Lib.hid r2
  have hx3 : (w2.setCell ⟨m, 13, none⟩ (.slice oA2 (S.out.length + 1) oc2)).rowIs X 84 3 (three ⟨t, 3, sq⟩) := by
    have : A.drew.rowIs X 84 3 (three ⟨t, 3, sq⟩) := hx
    exact this.of_block (hC3.fr.block _ hx.lt hXO)
  have HV := Lib.hid hv
  have HOV := Lib.hid hov
  have HQ := Lib.hid hq
  have HGL := Lib.hid hg
  rw [hv] at hs1
  have HS1 := Lib.hid hs1
  obtain ⟨ng, HNG⟩ : ∃ ng, Hid (L.length + 1 = ng) := ⟨_, rfl⟩
  rw [HNG.out] at hs1 hS0 k2g k1g b10 hcc HS1
  have b10w : (w.alloc (.cells #[.int .i64 t, .int .i64 3, .int .i64 sq] 84)).cell? ⟨m, 10, none⟩ = some (.slice (some ⟨g, 0, none⟩) ng c) := by rw [HAe.out]; exact b10
  have b13w : (w.alloc (.cells #[.int .i64 t, .int .i64 3, .int .i64 sq] 84)).cell? ⟨m, 13, none⟩ = some (.slice oA S.out.length oc) := by rw [HAe.out]; exact b13
  have hcI : (ng : Int) ≤ c := by omega
  have hlI : (0 : Int) < (ng : Int) := by have := HNG.out; omega
  have hlN : 0 < ng := by have := HNG.out; omega
  have hoI : (S.out.length : Int) < 65536 := by omega
  have hml := h0.wb.st.lt
  have HXO2 := Lib.hid (show ¬ OwnB m O { V with o := .slice oA2 (S.out.length + 1) oc2 } X from fun e => by
    rcases hC3.nw X e with e2 | e2
    · exact hXO e2
    · have : X < A.heap.size := hx.lt
      exact absurd e2 (Nat.not_le.2 this))
  have H3 := Lib.hid h3
  have HC3 := Lib.hid ((hC0.trans (CB.drewN m O V A 1)).trans hC3)
  have HX3 := Lib.hid hx3
  have HOG := Lib.hid hog
  have HBY := Lib.hid hby
  clear r2 h3 hC3 hx3 O2 N2 hdo hdr hby hog hqo hC0 hv hov hq hXO hs1 hcc ho hg F2
  go_enter Tryz.func44, Tryz.ntmps44
  go_wp2_with fail
  rw [HAe.out, HXe.out]
  refine wp_region_T (S := fun W : World => W.cell? ⟨m, 13, none⟩ = some (.slice oA S.out.length oc) ∧ W.cell? ⟨m, 10, none⟩ = some (.slice (some ⟨g, 0, none⟩) ng c) ∧ W.cell? ⟨g, 0, none⟩ = some (.int .u8 b)) 18 (by kernel_rfl) ?_
  refine wpT_take (i := 0) (v := ?_) rfl (by kernel_rfl) (by kernel_rfl) (by kernel_rfl) (by kernel_rfl) (fun _ _ _ h => h) hS0 (Or.inl ⟨by rfl, fun w hSw => ?_⟩) ?_
  rotate_left
  · (try dsimp only at hSw)
    obtain ⟨hs1, hs2, hs3⟩ := hSw
    go_simp
    try with_reducible rfl
  simp only [Act.put, List.setIfInBounds_toArray, List.set_cons_zero, List.set_cons_succ]
  refine wpT_take (i := 1) (v := ?_) rfl (by kernel_rfl) (by kernel_rfl) (by kernel_rfl) (by kernel_rfl) (fun _ _ _ h => h) hS0 (Or.inl ⟨by rfl, fun w hSw => ?_⟩) ?_
  rotate_left
  · (try dsimp only at hSw)
    obtain ⟨hs1, hs2, hs3⟩ := hSw
    go_simp
    try with_reducible rfl
  simp only [Act.put, List.setIfInBounds_toArray, List.set_cons_zero, List.set_cons_succ]
  refine wpT_take (i := 2) (v := ?_) rfl (by kernel_rfl) (by kernel_rfl) (by kernel_rfl) (by kernel_rfl) (fun _ _ _ h => h) hS0 (Or.inl ⟨by rfl, fun w hSw => ?_⟩) ?_
  rotate_left
  · (try dsimp only at hSw)
    obtain ⟨hs1, hs2, hs3⟩ := hSw
    go_simp
    try with_reducible rfl
  simp only [Act.put, List.setIfInBounds_toArray, List.set_cons_zero, List.set_cons_succ]
  refine wpT_take (i := 3) (v := ?_) rfl (by kernel_rfl) (by kernel_rfl) (by kernel_rfl) (by kernel_rfl) (fun _ _ _ h => h) hS0 (Or.inl ⟨by rfl, fun w hSw => ?_⟩) ?_
  rotate_left
  · (try dsimp only at hSw)
    obtain ⟨hs1, hs2, hs3⟩ := hSw
    go_simp
    try with_reducible rfl
  simp only [Act.put, List.setIfInBounds_toArray, List.set_cons_zero, List.set_cons_succ]
  refine wpT_take (i := 4) (v := ?_) rfl (by kernel_rfl) (by kernel_rfl) (by kernel_rfl) (by kernel_rfl) (fun _ _ _ h => h) hS0 (Or.inl ⟨by rfl, fun w hSw => ?_⟩) ?_
  rotate_left
  · (try dsimp only at hSw)
    obtain ⟨hs1, hs2, hs3⟩ := hSw
    go_simp
    try with_reducible rfl
  simp only [Act.put, List.setIfInBounds_toArray, List.set_cons_zero, List.set_cons_succ]
  refine wpT_take (i := 5) (v := ?_) rfl (by kernel_rfl) (by kernel_rfl) (by kernel_rfl) (by kernel_rfl) (fun _ _ _ h => h) hS0 (Or.inl ⟨by rfl, fun w hSw => ?_⟩) ?_
  rotate_left
  · (try dsimp only at hSw)
    obtain ⟨hs1, hs2, hs3⟩ := hSw
    go_simp
    try with_reducible rfl
  simp only [Act.put, List.setIfInBounds_toArray, List.set_cons_zero, List.set_cons_succ]
  refine wpT_take (i := 6) (v := ?_) rfl (by kernel_rfl) (by kernel_rfl) (by kernel_rfl) (by kernel_rfl) (fun _ _ _ h => h) hS0 (Or.inl ⟨by rfl, fun w hSw => ?_⟩) ?_
  rotate_left
  · (try dsimp only at hSw)
    obtain ⟨hs1, hs2, hs3⟩ := hSw
    go_simp
    try with_reducible rfl
  simp only [Act.put, List.setIfInBounds_toArray, List.set_cons_zero, List.set_cons_succ]
  refine wpT_take (i := 7) (v := ?_) rfl (by kernel_rfl) (by kernel_rfl) (by kernel_rfl) (by kernel_rfl) (fun _ _ _ h => h) hS0 (Or.inl ⟨by rfl, fun w hSw => ?_⟩) ?_
  rotate_left
  · (try dsimp only at hSw)
    obtain ⟨hs1, hs2, hs3⟩ := hSw
    go_simp
    try with_reducible rfl
  simp only [Act.put, List.setIfInBounds_toArray, List.set_cons_zero, List.set_cons_succ]
  refine wpT_take (i := 8) (v := ?_) rfl (by kernel_rfl) (by kernel_rfl) (by kernel_rfl) (by kernel_rfl) (fun _ _ _ h => h) hS0 (Or.inl ⟨by rfl, fun w hSw => ?_⟩) ?_
  rotate_left
  · (try dsimp only at hSw)
    obtain ⟨hs1, hs2, hs3⟩ := hSw
    go_simp
    try with_reducible rfl
  simp only [Act.put, List.setIfInBounds_toArray, List.set_cons_zero, List.set_cons_succ]
  refine wpT_take (i := 9) (v := ?_) rfl (by kernel_rfl) (by kernel_rfl) (by kernel_rfl) (by kernel_rfl) (fun _ _ _ h => h) hS0 (Or.inl ⟨by rfl, fun w hSw => ?_⟩) ?_
  rotate_left
  · (try dsimp only at hSw)
    obtain ⟨hs1, hs2, hs3⟩ := hSw
    go_simp
    try with_reducible rfl
  simp only [Act.put, List.setIfInBounds_toArray, List.set_cons_zero, List.set_cons_succ]
  refine wpT_take (i := 10) (v := ?_) rfl (by kernel_rfl) (by kernel_rfl) (by kernel_rfl) (by kernel_rfl) (fun _ _ _ h => h) hS0 (Or.inl ⟨by rfl, fun w hSw => ?_⟩) ?_
  rotate_left
  · (try dsimp only at hSw)
    obtain ⟨hs1, hs2, hs3⟩ := hSw
    go_simp
    try with_reducible rfl
  simp only [Act.put, List.setIfInBounds_toArray, List.set_cons_zero, List.set_cons_succ]
  refine wpT_take (i := 11) (v := ?_) rfl (by kernel_rfl) (by kernel_rfl) (by kernel_rfl) (by kernel_rfl) (fun _ _ _ h => h) hS0 (Or.inl ⟨by rfl, fun w hSw => ?_⟩) ?_
  rotate_left
  · (try dsimp only at hSw)
    obtain ⟨hs1, hs2, hs3⟩ := hSw
    go_simp
    try with_reducible rfl
  simp only [Act.put, List.setIfInBounds_toArray, List.set_cons_zero, List.set_cons_succ]
  refine wpT_take (i := 12) (v := ?_) rfl (by kernel_rfl) (by kernel_rfl) (by kernel_rfl) (by kernel_rfl) (fun _ _ _ h => h) hS0 (Or.inl ⟨by rfl, fun w hSw => ?_⟩) ?_
  rotate_left
  · (try dsimp only at hSw)
    obtain ⟨hs1, hs2, hs3⟩ := hSw
    go_simp
    try with_reducible rfl
  simp only [Act.put, List.setIfInBounds_toArray, List.set_cons_zero, List.set_cons_succ]
  refine wpT_one (i := 13) (by kernel_rfl) rfl (fun K hK => ?_)
  go_simp
  refine hK.out _ (A.drew.alloc (.cells #[.int .u8 b] 5)) ⟨k1, k1g, k1c⟩ ?_
  clear hK K
  refine wpT_one (i := 14) (by kernel_rfl) rfl (fun K hK => ?_)
  refine step_append_go rfl (.tmp 70) (.tmp 78) 24 24 rfl _ _ rfl rfl R2.out ?_
  simp only [Act.put, List.setIfInBounds_toArray, List.set_cons_zero, List.set_cons_succ]
  refine hK.out _ _ ⟨k2, k2g, k2c⟩ ?_
  clear hK K
  refine wpT_one (i := 15) (by kernel_rfl) rfl (fun K hK => ?_)
  go_simp
  refine hK.out _ _ ⟨k2, k2g, k2c⟩ ?_
  clear hK K
  refine wpT_one (i := 16) (by kernel_rfl) rfl (fun K hK => ?_)
  go_simp
  refine hK.out _ _ ⟨k2, k2g, k2c⟩ ?_
  clear hK K
  refine wpT_one (i := 17) (by kernel_rfl) rfl (fun K hK => ?_)
  go_simp
  refine hK.out _ _ ⟨k2, k2g, k2c⟩ ?_
  clear hK K
  refine wpT_last (by kernel_rfl) rfl (by kernel_rfl) (fun K hK => ?_)
  go_simp
  refine hK.out _ _ ?_
  clear hK K k1 k1g k1c k2 k2g k2c hS0 kz b10 b13 b10w b13w hx h0 hc0 hgl hml hcI hlI hlN hoI R2
  generalize w2.setCell ⟨m, 13, none⟩ (.slice oA2 (S.out.length + 1) oc2) = W3 at H3 HC3 HX3 ⊢
  have h3 := H3.out
  have hog3 : Ob W3 V.g (b :: L) := HQ.out ▸ h3.og
  obtain ⟨g3, c3, x3, hv3, _, _, hs3, hby3⟩ := tail_by hog3
  have e3 : x1 = x3 := by
    have a1 := HS1.out W3
    have a2 := hs3 W3
    rw [HV.out, HNG.out, a1] at a2
    injection a2
  subst e3
  have bl0 : Below W3.heap.size W3 (W3.alloc (.cells #[] 5)) := (Below.refl _ _).alloc (Nat.le_refl _) _
  have hown : (W3.alloc (.cells #[] 5)).ownsRow W3.heap.size 5 1 (.slice (some ⟨W3.heap.size, 0, none⟩) 0 0) 0 [] := World.ownsRow_lit W3 #[] 0 (Nat.le_refl _) (by unfold maxLen; omega) rfl
  have hby4 := hby3.fr (Fr.of_below (S := fun _ => False) bl0) (fun _ _ _ => id)
  obtain ⟨va, wa, ra, oa, ba, sa⟩ := app_bys (L := L) 24 hown hby4 bl0.size (by have := HGL.out; omega)
  have hba : Below W3.heap.size W3 wa := ba W3 bl0
  have hoba : Ob wa va L := by
    refine ⟨own_le oa (Nat.zero_le _), fun u hu => hog3.2 u (List.mem_cons_of_mem _ hu)⟩
  have hnew : ∀ k, va.ownBlock = some k → W3.heap.size ≤ k := fun k hk => (World.ownsRow.lt oa k hk).1
  obtain ⟨h5, hC5⟩ := h3.newG hba hoba hnew
  obtain ⟨gA, gc, rfl, hz1, hz2⟩ := own_form oa
  clear hz1 hz2
  have c10 : (W3.alloc (.cells #[] 5)).cell? ⟨m, 10, none⟩ = some (.slice (some ⟨g, 0, none⟩) ng c) := by
    have := (h3.below bl0).b10
    rw [show ({ V with o := Value.slice oA2 (S.out.length + 1) oc2 } : SV).g = V.g from rfl, HV.out, HNG.out] at this
    exact this
  have d10 : wa.cell? ⟨m, 10, none⟩ = some (.slice (some ⟨g, 0, none⟩) ng c) := by
    have := (h3.below hba).b10
    rw [show ({ V with o := Value.slice oA2 (S.out.length + 1) oc2 } : SV).g = V.g from rfl, HV.out, HNG.out] at this
    exact this
  have z10 : wa.frozen? ⟨m, 10, none⟩ = false := (h3.below hba).wb.st.frozen 10
  have hm3 : m < W3.heap.size := h3.wb.st.lt
  have hms : m < wa.heap.size := (h3.below hba).wb.st.lt
  have hx5 : (wa.setCell ⟨m, 10, none⟩ (.slice gA L.length gc)).rowIs X 84 3 (three ⟨t, 3, sq⟩) := HX3.out.of_block (hC5.fr.block _ HX3.out.lt HXO2.out)
  have HXO5 := Lib.hid (show ¬ OwnB m O { V with o := .slice oA2 (S.out.length + 1) oc2, g := .slice gA L.length gc } X from fun e => by
    rcases hC5.nw X e with e2 | e2
    · exact HXO2.out e2
    · have : X < W3.heap.size := HX3.out.lt
      omega)
  have RA := Lib.hid ra
  have hs1 := HS1.out
  have H5 := Lib.hid h5
  have HC5 := Lib.hid (HC3.out.trans hC5)
  have HX5 := Lib.hid hx5
  clear ra oa ba sa hba hoba hnew hown hby4 hby3 hs3 hog3 h5 hC5 hx5 h3 hv3 HOG HBY
  cases L with
  | nil =>
    have HF : Hid (fiU t S = { S with goes := [], out := S.out ++ [b] }) := by show _ = _; unfold fiU; rw [HQ.out]
    go_wp2_with (at_builtin; refine wpList_append_go rfl (.tmp 84) (.tmp 90) 24 24 rfl _ _ rfl rfl RA.out ?_)
    go_end0
    exact ⟨rfl, _, by rw [HF.out]; exact H5.out, HC5.out⟩
  | cons x L' =>
    have HF : Hid (fiU t S = armS 3 (t + 8) { S with goes := x :: L', out := S.out ++ [b] }) := by show _ = _; unfold fiU; rw [HQ.out]
    obtain ⟨n2, hN2, hn2⟩ : ∃ n2 : Nat, (x :: L').length = n2 ∧ 0 < n2 := ⟨_, rfl, by simp⟩
    rw [hN2] at RA
    have H5' : Hid (Bx (wa.setCell ⟨m, 10, none⟩ (.slice gA n2 gc)) m r y O p n { V with o := .slice oA2 (S.out.length + 1) oc2, g := .slice gA n2 gc } { S with goes := x :: L', out := S.out ++ [b] }) := by rw [← hN2]; exact H5
    have HC5' : Hid (CB m O V { V with o := .slice oA2 (S.out.length + 1) oc2, g := .slice gA n2 gc } w (wa.setCell ⟨m, 10, none⟩ (.slice gA n2 gc))) := by rw [← hN2]; exact HC5
    have HX5' : Hid ((wa.setCell ⟨m, 10, none⟩ (.slice gA n2 gc)).rowIs X 84 3 (three ⟨t, 3, sq⟩)) := by rw [← hN2]; exact HX5
    have HXO5' : Hid (¬ OwnB m O { V with o := .slice oA2 (S.out.length + 1) oc2, g := .slice gA n2 gc } X) := by rw [← hN2]; exact HXO5
    have hn2I : (0 : Int) < (n2 : Int) := by omega
    obtain ⟨T, hT0⟩ : ∃ T, t + 8 = T := ⟨_, rfl⟩
    have hok : okB 3 T = true := by unfold okB; apply decide_eq_true; omega
    have HW8 : Hid (IntKind.i64.wrap (t + 8) = T) := by show _ = _; rw [IntKind.wrap_i64]; omega
    rw [hT0] at HF
    clear H5 HC5 HX5 HXO5 hN2 n0 n1 hT0
    go_wp2_with (at_builtin; refine wpList_append_go rfl (.tmp 84) (.tmp 90) 24 24 rfl _ _ rfl rfl RA.out ?_)
    clear d10 c10 z10 hms hm3 RA hs1 bl0
    generalize wa.setCell ⟨m, 10, none⟩ (.slice gA n2 gc) = W1 at H5' HC5' HX5' ⊢
    generalize hV2 : ({ V with o := .slice oA2 (S.out.length + 1) oc2, g := .slice gA n2 gc } : SV) = V2 at H5' HC5' HXO5'
    clear hV2
    have h5d := H5'.out.drewN 1
    have hxd : W1.drew.rowIs X 84 3 (three ⟨t, 3, sq⟩) := HX5'.out
    have hW1d : Bx W1.drew m r y O p n V2 { S with goes := x :: L', out := S.out ++ [b] } := h5d
    have e0 : W1.drew.cell? ⟨X, 0, none⟩ = some (.int .i64 t) := hxd.cell (i := 0) (by omega)
    clear h5d
    go_region_held3 (fun w' => w'.cell? ⟨X, 0, none⟩ = some (.int .i64 t)) (first | with_reducible exact e0 | with_reducible exact z0)
      (first
        | (go_at_call 78; rw [HW8.out]; (with_reducible refine (rarm_S (W := W1.drew) 3 T hW1d.wb hok hl ha).mono ?_); rintro e w4 ⟨rfl, v4, hw4, hch4⟩; have h4 := hW1d.wheel hw4 hch4; have hC4 := CB.of_ch (O := O) hch4; have hx4 := hxd.of_block (hC4.fr.block _ hxd.lt HXO5'.out); have z0 : w4.cell? ⟨X, 0, none⟩ = some (.int .i64 t) := hx4.cell (i := 0) (by omega)))
    go_wp2
    go_end0
    exact ⟨rfl, _, by rw [HF.out]; exact h4, (HC5'.out.trans (CB.drewN m O V2 W1 1)).trans hC4⟩
end
end Go.Proofs.YtkfedihaldpgmaaGreat
