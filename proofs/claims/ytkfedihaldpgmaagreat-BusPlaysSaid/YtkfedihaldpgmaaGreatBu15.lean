/-
  Chapter 15: the document's bus: what is written to the uart's words, in the one state.
-/
import Derived.Test.YtkfedihaldpgmaaGreatBt15
import Derived.OwnWalk
namespace Go.Proofs.YtkfedihaldpgmaaGreat
open Go.RowKit
set_option linter.unusedVariables false
set_option linter.unusedSimpArgs false
theorem Ob.form {w : World} {v : Value} {L : List Int} (h : Ob w v L) : ∃ A c, v = .slice A L.length c ∧ L.length ≤ c := by
  rcases h.1.2 with ⟨rfl, hn⟩ | ⟨g, cap, cur, rfl, _, _, hc, _⟩
  · exact ⟨none, 0, by rw [hn], by omega⟩
  · exact ⟨_, _, rfl, hc⟩
theorem range_getD (L : List Int) : (List.range L.length).map (fun i => Value.int .u8 (L.getD i 0)) = L.map (Value.int .u8) := by
  apply List.ext_getElem?
  intro i
  by_cases h : i < L.length
  · rw [List.getElem?_map, List.getElem?_range h, List.getElem?_map, List.getElem?_eq_getElem h]
    show some (Value.int .u8 (L.getD i 0)) = _
    rw [List.getD_eq_getElem?_getD, List.getElem?_eq_getElem h]
    rfl
  · rw [List.getElem?_eq_none (by simpa using h), List.getElem?_eq_none (by simpa using h)]
theorem getD_bd {L : List Int} (h : ∀ x ∈ L, 0 ≤ x ∧ x ≤ 255) (i : Nat) : 0 ≤ L.getD i 0 ∧ L.getD i 0 ≤ 255 := by
  rw [List.getD_eq_getElem?_getD]
  by_cases hi : i < L.length
  · rw [List.getElem?_eq_getElem hi]; exact h _ (List.getElem_mem hi)
  · rw [List.getElem?_eq_none (by omega)]; exact ⟨Int.le_refl 0, by decide⟩
/-- bytes that are owned, as bytes -/
theorem Ob.by {w : World} {v : Value} {L : List Int} (h : Ob w v L) : ByAt (fun k => v.ownBlock = some k) w v L.length (fun i => L.getD i 0) := by
  rcases h.1.2 with ⟨rfl, hn⟩ | ⟨g, cap, cur, rfl, hb, hh, hc, _⟩
  · exact .inl ⟨0, rfl, hn⟩
  · refine .inr ⟨⟨g, 0, none⟩, cap, rfl, hc, fun _ => ⟨rfl, rfl⟩, fun i hi => ⟨?_, getD_bd h.2 i⟩⟩
    have := h.1.cellAt i (by simpa using hi)
    rw [add_none, Nat.zero_add, this, ← range_getD, List.getElem?_map, List.getElem?_range hi]
    rfl
/-- bytes to an empty row of one's own -/
theorem app_bys {Q : Nat → Prop} {w : World} {B : Nat} {v x : Value} {L : List Int} (ty : TypeId) (hown : w.ownsRow B 5 1 v 0 []) (hx : ByAt Q w x L.length (fun i => L.getD i 0)) (hB : B ≤ w.heap.size) (hm : L.length ≤ 100000) :
    ∃ v' w', (Builtin.append_ #[24, 24] ty #[v, x]).run Tryz.prog w = .ok v' w' ∧ w'.ownsRow B 5 1 v' L.length (L.map (Value.int .u8)) ∧ (∀ w0, Below B w0 w → Below B w0 w') ∧ w.heap.size ≤ w'.heap.size := by
  obtain ⟨i0, hi, hi3⟩ := Option.map_eq_some_iff.1 info_u8
  simp only [Prod.mk.injEq] at hi3
  obtain ⟨hz0, hz1, hz2⟩ := hi3
  have hbl : ∀ k, v.ownBlock = some k → B ≤ k := by
    rcases hown.2 with ⟨rfl, _⟩ | ⟨g, cap, cur, rfl, hg, _⟩
    · intro k e; cases e
    · intro k e; cases e; exact hg
  have hL : ∀ n, n = L.length → ByAt Q w x n (fun i => L.getD i 0) → ∃ v' w', (Builtin.append_ #[24, 24] ty #[v, x]).run Tryz.prog w = .ok v' w' ∧ w'.ownsRow B 5 1 v' n ((List.range n).map fun i => Value.int .u8 (L.getD i 0)) ∧ (∀ w0, Below B w0 w → Below B w0 w') ∧ w.heap.size ≤ w'.heap.size := by
    intro n hn hx
    rcases hx with ⟨c, rfl, rfl⟩ | ⟨ad, c, rfl, hc, hq, hcell⟩
    · refine ⟨v, w, ?_, hown, fun _ h => h, Nat.le_refl _⟩
      rcases hown.2 with ⟨rfl, _⟩ | ⟨g, cap, cur, rfl, _, _, hnc, _⟩
      · simp [Builtin.append_, run_underlying Tryz.underlying24, sizeOf, typeInfo, hi, Builtin.lenOf, Builtin.firstCells]
      · simp [Builtin.append_, run_underlying Tryz.underlying24, sizeOf, typeInfo, hi, Builtin.lenOf, Builtin.firstCells, hnc, storeCells]
    · obtain ⟨v', w', hr, h1, h2, _, h4⟩ := run_append_own_at (P := Tryz.prog) w B 24 ty 5 i0 (.int .u8 0) 1 1 Tryz.underlying24 hi hz0 hz1 hz2 rfl (by decide) v 0 [] hown ad n c ((List.range n).map fun i => Value.int .u8 (L.getD i 0)) (by simp) (fun j u hj => by
        have hjn : j < n := by
          rcases Nat.lt_or_ge j n with q | q
          · exact q
          · rw [List.getElem?_eq_none (by simpa using q)] at hj; cases hj
        rw [List.getElem?_map, List.getElem?_range hjn] at hj
        have e : Value.int .u8 (L.getD j 0) = u := by simpa using hj
        rw [← e]
        exact (hcell j hjn).1) (by intro u hu; simp at hu; obtain ⟨j, _, rfl⟩ := hu; rfl) (by unfold maxLen; omega) (by omega) hB
      refine ⟨v', w', hr, by simpa using h1, fun w0 h => ?_, h2.size⟩
      exact h.trans ((fr_of_grown h2).below hB (fun k hk e => by have := hbl k e.symm; omega))
  obtain ⟨v', w', h1, h2, h3, h4⟩ := hL L.length rfl hx
  rw [range_getD] at h2
  exact ⟨v', w', h1, h2, h3, h4⟩
/-- one byte more -/
theorem app_byte {w : World} {B n X : Nat} {v : Value} {xs : List Value} (ty : TypeId) (b : Int) (hown : w.ownsRow B 5 1 v n xs) (hX : X = w.heap.size) (hB : B ≤ w.heap.size) (hm : n ≤ 100000) :
    ∃ v' w', (Builtin.append_ #[24, 24] ty #[v, .slice (some ⟨X, 0, none⟩) 1 1]).run Tryz.prog (w.alloc (.cells #[.int .u8 b] 5)) = .ok v' w' ∧ w'.ownsRow B 5 1 v' (n + 1) (xs ++ [.int .u8 b]) ∧ (∀ w0, Below B w0 w → Below B w0 w') ∧ w.heap.size ≤ w'.heap.size := by
  subst hX
  obtain ⟨i0, hi, hi3⟩ := Option.map_eq_some_iff.1 info_u8
  simp only [Prod.mk.injEq] at hi3
  obtain ⟨hz0, hz1, hz2⟩ := hi3
  have hbl : ∀ k, v.ownBlock = some k → B ≤ k := by
    rcases hown.2 with ⟨rfl, _⟩ | ⟨g, cap, cur, rfl, hg, _⟩
    · intro k e; cases e
    · intro k e; cases e; exact hg
  have hs : (w.alloc (.cells #[.int .u8 b] 5)).heap.size = w.heap.size + 1 := Array.size_push ..
  obtain ⟨v', w', hr, h1, h2, _, h4⟩ := run_append_own_at (P := Tryz.prog) (w.alloc (.cells #[.int .u8 b] 5)) B 24 ty 5 i0 (.int .u8 0) 1 1 Tryz.underlying24 hi hz0 hz1 hz2 rfl (by decide) v n xs (World.ownsRow.alloc hown _) ⟨w.heap.size, 0, none⟩ 1 1 [.int .u8 b] rfl
    (World.news_of_block (heap_alloc_new w _)) (by intro u hu; simp at hu; subst hu; rfl) (by unfold maxLen; omega) (by omega) (by rw [hs]; omega)
  refine ⟨v', w', hr, h1, fun w0 h => ?_, by have := h2.size; omega⟩
  exact (h.alloc hB _).trans ((fr_of_grown h2).below (by rw [hs]; omega) (fun k hk e => by have := hbl k e.symm; omega))
/-- a part is another one, that is nobody's -/
theorem Sep.rep {K K2 : Nat → Nat → Prop} (h : Sep K) (i : Nat) (h2 : ∀ j k, j < 6 → K2 j k → (j ≠ i ∧ K j k) ∨ (j = i ∧ ∀ l, l < 6 → ¬ K l k)) : Sep K2 := by
  intro a b k ha hb hab hk hk2
  rcases h2 a k ha hk with ⟨_, e1⟩ | ⟨rfl, e1⟩
  · rcases h2 b k hb hk2 with ⟨_, e2⟩ | ⟨rfl, e2⟩
    · exact h a b k ha hb hab e1 e2
    · exact e2 a ha e1
  · rcases h2 b k hb hk2 with ⟨_, e2⟩ | ⟨rfl, e2⟩
    · exact e1 b hb e2
    · exact hab rfl
section
variable {w w' : World} {m r y : Nat} {O : Nat → Prop} {p n : Nat} {V : SV} {S : BS}
/-- a slice is another one, in a block that is nobody's -/
theorem Bx.setG (h : Bx w m r y O p n V S) {v : Value} {L : List Int} (hv : Ob w v L) (hn : ∀ k, v.ownBlock = some k → ¬ OwnB m O V k) : Bx (w.setCell ⟨m, 10, none⟩ v) m r y O p n { V with g := v } { S with goes := L } := by
  have fr : Fr (fun k => k = m) w (w.setCell ⟨m, 10, none⟩ v) := (Fr.refl (fun k => k = m) w).setCell (x := ⟨m, 10, none⟩) (.inl rfl) v
  have hq : ∀ j k, j < 6 → 1 ≤ j → KB m O V j k → ¬ k = m := fun j k hj h1 hk e => h.sep j 0 k hj (by omega) (by omega) hk e
  have hnv : ∀ k, v.ownBlock = some k → ¬ k = m := fun k hk e => hn k hk ⟨0, by omega, e⟩
  refine ⟨(h.wb.setC 10 v (by omega) (by omega)).congr fun j hj => ?_, h.oc.fr fr (fun k hk => hq 2 k (by omega) (by omega) hk), hv.fr fr (fun k hk => hnv k hk), h.oo.fr fr (fun k hk => hq 4 k (by omega) (by omega) hk), h.mm.fr fr (fun k hk => hq 5 k (by omega) (by omega) hk), h.sep.rep 3 fun j k hj hk => ?_⟩
  · have : j = 0 ∨ j = 1 ∨ j = 2 ∨ j = 3 ∨ j = 4 ∨ j = 5 ∨ j = 6 ∨ j = 7 ∨ j = 8 ∨ j = 9 ∨ j = 10 ∨ j = 11 ∨ j = 12 ∨ j = 13 ∨ j = 14 ∨ j = 15 ∨ j = 16 ∨ j = 17 ∨ j = 18 ∨ j = 19 ∨ j = 20 ∨ j = 21 ∨ j = 22 ∨ j = 23 ∨ j = 24 := by omega
    rcases this with rfl | rfl | rfl | rfl | rfl | rfl | rfl | rfl | rfl | rfl | rfl | rfl | rfl | rfl | rfl | rfl | rfl | rfl | rfl | rfl | rfl | rfl | rfl | rfl | rfl <;> rfl
  · match j, hj with
    | 0, _ => exact .inl ⟨by omega, hk⟩
    | 1, _ => exact .inl ⟨by omega, hk⟩
    | 2, _ => exact .inl ⟨by omega, hk⟩
    | 3, _ => exact .inr ⟨rfl, fun l hl e => hn k hk ⟨l, hl, e⟩⟩
    | 4, _ => exact .inl ⟨by omega, hk⟩
    | 5, _ => exact .inl ⟨by omega, hk⟩
/-- a slice is another one, in a block that is nobody's -/
theorem Bx.setCm (h : Bx w m r y O p n V S) {v : Value} {L : List Int} (hv : Ob w v L) (hn : ∀ k, v.ownBlock = some k → ¬ OwnB m O V k) : Bx (w.setCell ⟨m, 9, none⟩ v) m r y O p n { V with c := v } { S with came := L } := by
  have fr : Fr (fun k => k = m) w (w.setCell ⟨m, 9, none⟩ v) := (Fr.refl (fun k => k = m) w).setCell (x := ⟨m, 9, none⟩) (.inl rfl) v
  have hq : ∀ j k, j < 6 → 1 ≤ j → KB m O V j k → ¬ k = m := fun j k hj h1 hk e => h.sep j 0 k hj (by omega) (by omega) hk e
  have hnv : ∀ k, v.ownBlock = some k → ¬ k = m := fun k hk e => hn k hk ⟨0, by omega, e⟩
  refine ⟨(h.wb.setC 9 v (by omega) (by omega)).congr fun j hj => ?_, hv.fr fr (fun k hk => hnv k hk), h.og.fr fr (fun k hk => hq 3 k (by omega) (by omega) hk), h.oo.fr fr (fun k hk => hq 4 k (by omega) (by omega) hk), h.mm.fr fr (fun k hk => hq 5 k (by omega) (by omega) hk), h.sep.rep 2 fun j k hj hk => ?_⟩
  · have : j = 0 ∨ j = 1 ∨ j = 2 ∨ j = 3 ∨ j = 4 ∨ j = 5 ∨ j = 6 ∨ j = 7 ∨ j = 8 ∨ j = 9 ∨ j = 10 ∨ j = 11 ∨ j = 12 ∨ j = 13 ∨ j = 14 ∨ j = 15 ∨ j = 16 ∨ j = 17 ∨ j = 18 ∨ j = 19 ∨ j = 20 ∨ j = 21 ∨ j = 22 ∨ j = 23 ∨ j = 24 := by omega
    rcases this with rfl | rfl | rfl | rfl | rfl | rfl | rfl | rfl | rfl | rfl | rfl | rfl | rfl | rfl | rfl | rfl | rfl | rfl | rfl | rfl | rfl | rfl | rfl | rfl | rfl <;> rfl
  · match j, hj with
    | 0, _ => exact .inl ⟨by omega, hk⟩
    | 1, _ => exact .inl ⟨by omega, hk⟩
    | 2, _ => exact .inr ⟨rfl, fun l hl e => hn k hk ⟨l, hl, e⟩⟩
    | 3, _ => exact .inl ⟨by omega, hk⟩
    | 4, _ => exact .inl ⟨by omega, hk⟩
    | 5, _ => exact .inl ⟨by omega, hk⟩
/-- a slice is another one, in a block that is nobody's -/
theorem Bx.setOu (h : Bx w m r y O p n V S) {v : Value} {L : List Int} (hv : Ob w v L) (hn : ∀ k, v.ownBlock = some k → ¬ OwnB m O V k) : Bx (w.setCell ⟨m, 13, none⟩ v) m r y O p n { V with o := v } { S with out := L } := by
  have fr : Fr (fun k => k = m) w (w.setCell ⟨m, 13, none⟩ v) := (Fr.refl (fun k => k = m) w).setCell (x := ⟨m, 13, none⟩) (.inl rfl) v
  have hq : ∀ j k, j < 6 → 1 ≤ j → KB m O V j k → ¬ k = m := fun j k hj h1 hk e => h.sep j 0 k hj (by omega) (by omega) hk e
  have hnv : ∀ k, v.ownBlock = some k → ¬ k = m := fun k hk e => hn k hk ⟨0, by omega, e⟩
  refine ⟨(h.wb.setC 13 v (by omega) (by omega)).congr fun j hj => ?_, h.oc.fr fr (fun k hk => hq 2 k (by omega) (by omega) hk), h.og.fr fr (fun k hk => hq 3 k (by omega) (by omega) hk), hv.fr fr (fun k hk => hnv k hk), h.mm.fr fr (fun k hk => hq 5 k (by omega) (by omega) hk), h.sep.rep 4 fun j k hj hk => ?_⟩
  · have : j = 0 ∨ j = 1 ∨ j = 2 ∨ j = 3 ∨ j = 4 ∨ j = 5 ∨ j = 6 ∨ j = 7 ∨ j = 8 ∨ j = 9 ∨ j = 10 ∨ j = 11 ∨ j = 12 ∨ j = 13 ∨ j = 14 ∨ j = 15 ∨ j = 16 ∨ j = 17 ∨ j = 18 ∨ j = 19 ∨ j = 20 ∨ j = 21 ∨ j = 22 ∨ j = 23 ∨ j = 24 := by omega
    rcases this with rfl | rfl | rfl | rfl | rfl | rfl | rfl | rfl | rfl | rfl | rfl | rfl | rfl | rfl | rfl | rfl | rfl | rfl | rfl | rfl | rfl | rfl | rfl | rfl | rfl <;> rfl
  · match j, hj with
    | 0, _ => exact .inl ⟨by omega, hk⟩
    | 1, _ => exact .inl ⟨by omega, hk⟩
    | 2, _ => exact .inl ⟨by omega, hk⟩
    | 3, _ => exact .inl ⟨by omega, hk⟩
    | 4, _ => exact .inr ⟨rfl, fun l hl e => hn k hk ⟨l, hl, e⟩⟩
    | 5, _ => exact .inl ⟨by omega, hk⟩
theorem CB.setG (m : Nat) (O : Nat → Prop) (V : SV) (w0 w : World) (i : Nat) (v : Value) (V2 : SV) (f : Fr (fun _ => False) w0 w) (h2 : ∀ k, OwnB m O V2 k → OwnB m O V k ∨ w0.heap.size ≤ k) : CB m O V V2 w0 (w.setCell ⟨m, i, none⟩ v) :=
  ⟨(f.mono (fun _ e => e.elim)).setCell (x := ⟨m, i, none⟩) (.inl (show OwnB m O V m from ⟨0, by omega, rfl⟩)) v, h2⟩
/-- a byte is to go -/
def sendB (b now : Int) (S : BS) : BS := if S.goes.length < 16 then (if S.goes.length = 0 then armS 3 (now + 8) { S with goes := S.goes ++ [b] } else { S with goes := S.goes ++ [b] }) else S
def wrU (k : Nat) (v now : Int) (S : BS) : BS := match k with
  | 0 => sendB (v % 256) now S
  | 1 => { S with lost := if v / 4 % 2 = 1 then false else S.lost }
  | 2 => { S with uc := v % 4 }
  | _ => S
set_option maxRecDepth 100000 in
set_option maxHeartbeats 1000000 in
theorem buart0_no (x now : Int) (h : Bx w m r y O p n V S) (hg : 16 ≤ S.goes.length) :
    Calls Tryz.prog 69 #[.pointer (some ⟨m, 0, none⟩), .int .u32 0, .int .u32 x, .int .i64 now] w fun e w' => e = .returned (.bool true) ∧ w = w' := by
  obtain ⟨A, c, hv, hc⟩ := h.og.form
  have b10 := h.b10
  rw [hv] at b10
  generalize S.goes.length = N at b10 hg hc
  go_enter Tryz.func69, Tryz.ntmps69
  go_wp2
  go_ret
  exact ⟨rfl, rfl⟩
theorem own_le {w : World} {base base' size n : Nat} {e : TypeId} {v : Value} {xs : List Value} (h : w.ownsRow base e size v n xs) (hb : base' ≤ base) : w.ownsRow base' e size v n xs :=
  ⟨h.1, h.2.elim Or.inl (fun ⟨g, cap, cur, hv, hg, r⟩ => Or.inr ⟨g, cap, cur, hv, Nat.le_trans hb hg, r⟩)⟩
set_option maxRecDepth 100000 in
set_option maxHeartbeats 1000000 in
theorem buart0_more (x now : Int) (h : Bx w m r y O p n V S) (hg : S.goes.length < 16) (h0 : 0 < S.goes.length) (x0 : 0 ≤ x) (x1 : x < 4294967296) :
    Calls Tryz.prog 69 #[.pointer (some ⟨m, 0, none⟩), .int .u32 0, .int .u32 x, .int .i64 now] w (RetN (.bool true) w m r y O p n V { S with goes := S.goes ++ [x % 256] }) := by
  obtain ⟨A, c, hv, hc⟩ := h.og.form
  have b10 := h.b10
  rw [hv] at b10
  have bl0 : Below w.heap.size w (w.alloc (.cells #[] 5)) := (Below.refl _ _).alloc (Nat.le_refl _) _
  have hown : (w.alloc (.cells #[] 5)).ownsRow w.heap.size 5 1 (.slice (some ⟨w.heap.size, 0, none⟩) 0 0) 0 [] := World.ownsRow_lit w #[] 0 (Nat.le_refl _) (by unfold maxLen; omega) rfl
  obtain ⟨va, wa, ra, oa, ba, sa⟩ := app_bys (L := S.goes) 24 hown (h.below bl0).og.by bl0.size (by omega)
  obtain ⟨vb, wb, rb, ob, bb, sb⟩ := app_byte (X := wa.heap.size) 24 (x % 256) oa rfl (Nat.le_trans bl0.size sa) (by omega)
  obtain ⟨gb, cb, hvb, _, _⟩ := ob.form (by omega)
  have hbw := bb w (ba w bl0)
  have hB := h.below hbw
  have hob : Ob wb vb (S.goes ++ [x % 256]) := by
    refine ⟨?_, fun u hu => ?_⟩
    · have : wb.ownsRow 0 5 1 vb (S.goes.length + 1) (S.goes.map (Value.int .u8) ++ [.int .u8 (x % 256)]) := own_le ob (Nat.zero_le _)
      rw [List.length_append, List.map_append]
      exact this
    · rcases List.mem_append.1 hu with e | e
      · exact h.og.2 u e
      · rw [List.mem_singleton.1 e]; omega
  have hnew : ∀ k, vb.ownBlock = some k → w.heap.size ≤ k := fun k hk => (World.ownsRow.lt ob k hk).1
  have hG := hB.setG hob (fun k hk e => by have := h.lt k e; have := hnew k hk; omega)
  have hCB : CB m O V { V with g := vb } w (wb.setCell ⟨m, 10, none⟩ vb) := CB.setG m O V w wb 10 vb _ (Fr.of_below hbw) (fun k ⟨i, hi, hk⟩ => by
    match i, hi with
    | 0, _ => exact .inl ⟨0, by omega, hk⟩
    | 1, _ => exact .inl ⟨1, by omega, hk⟩
    | 2, _ => exact .inl ⟨2, by omega, hk⟩
    | 3, _ => exact .inr (hnew k hk)
    | 4, _ => exact .inl ⟨4, by omega, hk⟩
    | 5, _ => exact .inl ⟨5, by omega, hk⟩)
  have f10 := hB.wb.st.frozen 10
  have d10 : wb.cell? ⟨m, 10, none⟩ = some (.slice A S.goes.length c) := hv ▸ hB.b10
  have c10 : (w.alloc (.cells #[] 5)).cell? ⟨m, 10, none⟩ = some (.slice A S.goes.length c) := hv ▸ (h.below bl0).b10
  rw [hv] at ra
  have RA := Lib.hid ra
  have RB := Lib.hid rb
  have HR := Lib.hid (And.intro hG hCB)
  have hml := h.wb.st.lt
  have hbs := hbw.size
  clear ra rb oa ob ba bb sa sb hB hob hnew hG hCB hown hv hbw bl0
  generalize S.goes.length = N at b10 c10 d10 hg hc h0 RA RB hvb
  subst hvb
  go_enter Tryz.func69, Tryz.ntmps69
  go_wp2_with (at_builtin; first | refine wpList_append_go rfl (.tmp 35) (.tmp 39) 24 24 rfl _ _ rfl rfl RA.out ?_ | refine wpList_append_go rfl (.tmp 40) (.tmp 43) 24 24 rfl _ _ rfl rfl RB.out ?_)
  go_ret
  exact ⟨rfl, _, HR.out.1, HR.out.2⟩
theorem and3 (v : Int) (h0 : 0 ≤ v) (h1 : v < 4294967296) : bits .and .u32 v 3 = v % 4 := by
  have := Go.u32_and_nat v.toNat 3 (by omega) (by omega)
  rw [show ((v.toNat : Nat) : Int) = v by omega] at this
  rw [show ((3 : Nat) : Int) = 3 from rfl] at this
  rw [this, show (3 : Nat) = 2 ^ 2 - 1 from rfl, Nat.and_two_pow_sub_one_eq_mod]
  omega
theorem and4 (v : Int) (h0 : 0 ≤ v) (h1 : v < 4294967296) : bits .and .u32 v 4 = if v / 4 % 2 = 1 then 4 else 0 := by
  have := Go.u32_and_nat v.toNat 4 (by omega) (by omega)
  rw [show ((v.toNat : Nat) : Int) = v by omega] at this
  rw [show ((4 : Nat) : Int) = 4 from rfl] at this
  rw [this, show (4 : Nat) = 2 ^ 3 - 2 ^ 2 from rfl, nat_midmask 3 2 _ (by decide)]
  split <;> omega
set_option maxRecDepth 100000 in
set_option maxHeartbeats 1000000 in
theorem buart0_first (x now : Int) (h : Bx w m r y O p n V S) (hg : S.goes.length = 0) (x0 : 0 ≤ x) (x1 : x < 4294967296) (hl : S.L.length ≤ 990000) (ha : 0 ≤ S.a ∧ S.a ≤ 1000000) (n0 : 0 ≤ now) (n1 : now ≤ 4611686018427387000) :
    Calls Tryz.prog 69 #[.pointer (some ⟨m, 0, none⟩), .int .u32 0, .int .u32 x, .int .i64 now] w (RetN (.bool true) w m r y O p n V (armS 3 (now + 8) { S with goes := S.goes ++ [x % 256] })) := by
  obtain ⟨A, c, hv, hc⟩ := h.og.form
  have b10 := h.b10
  rw [hv] at b10
  have hok : okB 3 (now + 8) = true := by unfold okB; apply decide_eq_true; omega
  have hg0 : (S.goes.length : Int) < 16 := by omega
  have hg1 : ((S.goes.length : Int) == 0) = true := by rw [hg]; rfl
  go_enter Tryz.func69, Tryz.ntmps69
  go_wp2_with fail
  with_reducible refine (rarm_S 3 (now + 8) h.wb hok hl ha).mono ?_
  rintro e w4 ⟨rfl, v4, hw4, hch4⟩
  have h4 := h.wheel hw4 hch4
  have bl0 : Below w4.heap.size w4 (w4.alloc (.cells #[] 5)) := (Below.refl _ _).alloc (Nat.le_refl _) _
  have hown : (w4.alloc (.cells #[] 5)).ownsRow w4.heap.size 5 1 (.slice (some ⟨w4.heap.size, 0, none⟩) 0 0) 0 [] := World.ownsRow_lit w4 #[] 0 (Nat.le_refl _) (by unfold maxLen; omega) rfl
  obtain ⟨va, wa, ra, oa, ba, sa⟩ := app_bys (L := S.goes) 24 hown (h4.below bl0).og.by bl0.size (by omega)
  obtain ⟨vb, wb, rb, ob, bb, sb⟩ := app_byte (X := wa.heap.size) 24 (x % 256) oa rfl (Nat.le_trans bl0.size sa) (by omega)
  obtain ⟨gb, cb, hvb, _, _⟩ := ob.form (by omega)
  have hbw := bb w4 (ba w4 bl0)
  have hB := h4.below hbw
  have hob : Ob wb vb (S.goes ++ [x % 256]) := by
    refine ⟨?_, fun u hu => ?_⟩
    · have : wb.ownsRow 0 5 1 vb (S.goes.length + 1) (S.goes.map (Value.int .u8) ++ [.int .u8 (x % 256)]) := own_le ob (Nat.zero_le _)
      rw [List.length_append, List.map_append]
      exact this
    · rcases List.mem_append.1 hu with e | e
      · exact h.og.2 u e
      · rw [List.mem_singleton.1 e]; omega
  have hnew : ∀ k, vb.ownBlock = some k → w4.heap.size ≤ k := fun k hk => (World.ownsRow.lt ob k hk).1
  have hG := hB.setG hob (fun k hk e => by have := h4.lt k e; have := hnew k hk; omega)
  have hCB : CB m O { V with u := v4 } { u := v4, c := V.c, g := vb, o := V.o } w4 (wb.setCell ⟨m, 10, none⟩ vb) := CB.setG m O { V with u := v4 } w4 wb 10 vb _ (Fr.of_below hbw) (fun k ⟨i, hi, hk⟩ => by
    match i, hi with
    | 0, _ => exact .inl ⟨0, by omega, hk⟩
    | 1, _ => exact .inl ⟨1, by omega, hk⟩
    | 2, _ => exact .inl ⟨2, by omega, hk⟩
    | 3, _ => exact .inr (hnew k hk)
    | 4, _ => exact .inl ⟨4, by omega, hk⟩
    | 5, _ => exact .inl ⟨5, by omega, hk⟩)
  have f10 := hB.wb.st.frozen 10
  have d10 : wb.cell? ⟨m, 10, none⟩ = some (.slice A S.goes.length c) := hv ▸ hB.b10
  have c10 : (w4.alloc (.cells #[] 5)).cell? ⟨m, 10, none⟩ = some (.slice A S.goes.length c) := hv ▸ (h4.below bl0).b10
  rw [hv] at ra
  have RA := Lib.hid ra
  have RB := Lib.hid rb
  have hG2 : Bx (wb.setCell ⟨m, 10, none⟩ vb) m r y O p n { u := v4, c := V.c, g := vb, o := V.o } (armS 3 (now + 8) { S with goes := S.goes ++ [x % 256] }) := hG
  have HR := Lib.hid (And.intro hG2 hCB)
  clear hG2
  have hml := h4.wb.st.lt
  have hbs := hbw.size
  have HC4 : Hid (CB m O V { V with u := v4 } w w4) := Lib.hid (CB.of_ch hch4)
  clear ra rb oa ob ba bb sa sb hB hob hnew hG hCB hown hv hbw bl0 hw4 hch4 h4 h b10
  generalize S.goes.length = N at c10 d10 hg hc hg0 hg1 RA RB hvb ⊢
  subst hvb
  subst hg
  clear hg0 hg1 hc
  go_wp2_with (at_builtin; first | refine wpList_append_go rfl (.tmp 35) (.tmp 39) 24 24 rfl _ _ rfl rfl RA.out ?_ | refine wpList_append_go rfl (.tmp 40) (.tmp 43) 24 24 rfl _ _ rfl rfl RB.out ?_)
  go_ret
  exact ⟨rfl, _, HR.out.1, HC4.out.trans HR.out.2⟩
set_option maxRecDepth 100000 in
set_option maxHeartbeats 1000000 in
theorem buart_any (k : Nat) (z x now : Int) (h : Bx w m r y O p n V S) (hk : k ≤ 15) (hz : z = (k : Int)) (x0 : 0 ≤ x) (x1 : x < 4294967296) (hl : S.L.length ≤ 990000) (ha : 0 ≤ S.a ∧ S.a ≤ 1000000) (n0 : 0 ≤ now) (n1 : now ≤ 4611686018427387000) :
    Calls Tryz.prog 69 #[.pointer (some ⟨m, 0, none⟩), .int .u32 z, .int .u32 x, .int .i64 now] w (RetN (.bool (decide (k < 3))) w m r y O p n V (wrU k x now S)) := by
  have b11 := h.b11
  have b12 := h.b12
  have f11 := h.wb.st.frozen 11
  have f12 := h.wb.st.frozen 12
  match k with
  | 0 =>
    obtain rfl : z = 0 := by omega
    by_cases hg : S.goes.length < 16
    · by_cases h0 : S.goes.length = 0
      · have HA : wrU 0 x now S = armS 3 (now + 8) { S with goes := S.goes ++ [x % 256] } := by show sendB (x % 256) now S = _; unfold sendB; rw [if_pos hg, if_pos h0]
        rw [HA]
        exact buart0_first x now h h0 x0 x1 hl ha n0 n1
      · have HA : wrU 0 x now S = { S with goes := S.goes ++ [x % 256] } := by show sendB (x % 256) now S = _; unfold sendB; rw [if_pos hg, if_neg h0]
        rw [HA]
        exact buart0_more x now h hg (by omega) x0 x1
    · have HA : wrU 0 x now S = S := by show sendB (x % 256) now S = _; unfold sendB; rw [if_neg hg]
      rw [HA]
      exact (buart0_no x now h (by omega)).mono fun e w' ⟨he, hw⟩ => ⟨he, V, hw ▸ h, hw ▸ CB.refl _ _ _ _⟩
  | 1 =>
    obtain rfl : z = 1 := by omega
    clear hz hk
    have hv := and4 x x0 x1
    by_cases hx : x / 4 % 2 = 1
    · have hb : (bits .and .u32 x 4 != 0) = true := by rw [hv, if_pos hx]; rfl
      have H0 : Hid (wrU 1 x now S = { S with lost := false }) := by show ({ S with lost := if x / 4 % 2 = 1 then false else S.lost } : BS) = _; rw [if_pos hx]
      clear hv hx
      go_enter Tryz.func69, Tryz.ntmps69
      go_wp2
      go_ret
      exact ⟨rfl, V, by rw [H0.out]; exact h.setLo false, CB.set m O V w 11 _⟩
    · have hb : (bits .and .u32 x 4 != 0) = false := by rw [hv, if_neg hx]; rfl
      have H0 : Hid (wrU 1 x now S = S) := by show ({ S with lost := if x / 4 % 2 = 1 then false else S.lost } : BS) = _; rw [if_neg hx]
      clear hv hx
      go_enter Tryz.func69, Tryz.ntmps69
      go_wp2
      go_ret
      exact ⟨rfl, V, by rw [H0.out]; exact h, CB.refl _ _ _ _⟩
  | 2 =>
    obtain rfl : z = 2 := by omega
    clear hz hk
    have hv := Lib.hid (and3 x x0 x1)
    go_enter Tryz.func69, Tryz.ntmps69
    go_wp2
    rw [hv.out]
    go_ret
    exact ⟨rfl, V, h.setUc (x % 4), CB.set m O V w 12 _⟩
  | k + 3 =>
    have hz4 : 3 ≤ z := by omega
    have HZ : Hid (decide (k + 3 < 3) = false) := Lib.hid (decide_eq_false (by omega))
    have z0 : (z == 0) = false := beq_false_of_ne (by omega)
    have z1 : (z == 1) = false := beq_false_of_ne (by omega)
    have z2 : (z == 2) = false := beq_false_of_ne (by omega)
    have z3 : ¬ z < 3 := by omega
    clear hz hk
    go_enter Tryz.func69, Tryz.ntmps69
    go_wp2
    go_ret
    exact ⟨by rw [HZ.out]; rfl, V, h, CB.refl _ _ _ _⟩
end
end Go.Proofs.YtkfedihaldpgmaaGreat
