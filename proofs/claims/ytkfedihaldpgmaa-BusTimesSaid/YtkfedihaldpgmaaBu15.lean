/-
  Chapter 15: the document's bus: what is written to the uart's words, in the one state.
-/
import Derived.Test.YtkfedihaldpgmaaBt15
import Derived.OwnWalk
namespace Go.Proofs.Ytkfedihaldpgmaa
open Go.RowKit
set_option linter.unusedVariables false
set_option linter.unusedSimpArgs false
theorem Ob.form {w : World} {v : Value} {L : List Int} (h : Ob w v L) : ∃ A c, v = .slice A L.length c ∧ L.length ≤ c := by
  rcases h.1.2 with ⟨rfl, hn⟩ | ⟨g, cap, cur, rfl, _, _, hc, _⟩
  · exact ⟨none, 0, by rw [hn], by omega⟩
  · exact ⟨_, _, rfl, hc⟩
theorem range_getD (L : List Int) : (List.range L.length).map (fun i => Value.int .u8 (L.getD i 0)) = L.map (Value.int .u8) := by
  apply List.ext_getElem?
  intro i
  by_cases h : i < L.length
  · rw [List.getElem?_map, List.getElem?_range h, List.getElem?_map, List.getElem?_eq_getElem h]
    show some (Value.int .u8 (L.getD i 0)) = _
    rw [List.getD_eq_getElem?_getD, List.getElem?_eq_getElem h]
    rfl
  · rw [List.getElem?_eq_none (by simpa using h), List.getElem?_eq_none (by simpa using h)]
theorem getD_bd {L : List Int} (h : ∀ x ∈ L, 0 ≤ x ∧ x ≤ 255) (i : Nat) : 0 ≤ L.getD i 0 ∧ L.getD i 0 ≤ 255 := by
  rw [List.getD_eq_getElem?_getD]
  by_cases hi : i < L.length
  · rw [List.getElem?_eq_getElem hi]; exact h _ (List.getElem_mem hi)
  · rw [List.getElem?_eq_none (by omega)]; exact ⟨Int.le_refl 0, by decide⟩
/-- bytes that are owned, as bytes -/
theorem Ob.by {w : World} {v : Value} {L : List Int} (h : Ob w v L) : ByAt (fun k => v.ownBlock = some k) w v L.length (fun i => L.getD i 0) := by
  rcases h.1.2 with ⟨rfl, hn⟩ | ⟨g, cap, cur, rfl, hb, hh, hc, _⟩
  · exact .inl ⟨0, rfl, hn⟩
  · refine .inr ⟨⟨g, 0, none⟩, cap, rfl, hc, fun _ => ⟨rfl, rfl⟩, fun i hi => ⟨?_, getD_bd h.2 i⟩⟩
    have := h.1.cellAt i (by simpa using hi)
    rw [add_none, Nat.zero_add, this, ← range_getD, List.getElem?_map, List.getElem?_range hi]
    rfl
/-- bytes to an empty row of one's own -/
theorem app_bys {Q : Nat → Prop} {w : World} {B : Nat} {v x : Value} {L : List Int} (ty : TypeId) (hown : w.ownsRow B 5 1 v 0 []) (hx : ByAt Q w x L.length (fun i => L.getD i 0)) (hB : B ≤ w.heap.size) (hm : L.length ≤ 100000) :
    ∃ v' w', (Builtin.append_ #[32, 32] ty #[v, x]).run Try.prog w = .ok v' w' ∧ w'.ownsRow B 5 1 v' L.length (L.map (Value.int .u8)) ∧ (∀ w0, Below B w0 w → Below B w0 w') ∧ w.heap.size ≤ w'.heap.size := by
  obtain ⟨i0, hi, hi3⟩ := Option.map_eq_some_iff.1 info_u8
  simp only [Prod.mk.injEq] at hi3
  obtain ⟨hz0, hz1, hz2⟩ := hi3
  have hbl : ∀ k, v.ownBlock = some k → B ≤ k := by
    rcases hown.2 with ⟨rfl, _⟩ | ⟨g, cap, cur, rfl, hg, _⟩
    · intro k e; cases e
    · intro k e; cases e; exact hg
  have hL : ∀ n, n = L.length → ByAt Q w x n (fun i => L.getD i 0) → ∃ v' w', (Builtin.append_ #[32, 32] ty #[v, x]).run Try.prog w = .ok v' w' ∧ w'.ownsRow B 5 1 v' n ((List.range n).map fun i => Value.int .u8 (L.getD i 0)) ∧ (∀ w0, Below B w0 w → Below B w0 w') ∧ w.heap.size ≤ w'.heap.size := by
    intro n hn hx
    rcases hx with ⟨c, rfl, rfl⟩ | ⟨ad, c, rfl, hc, hq, hcell⟩
    · refine ⟨v, w, ?_, hown, fun _ h => h, Nat.le_refl _⟩
      rcases hown.2 with ⟨rfl, _⟩ | ⟨g, cap, cur, rfl, _, _, hnc, _⟩
      · simp [Builtin.append_, run_underlying Try.underlying32, sizeOf, typeInfo, hi, Builtin.lenOf, Builtin.firstCells]
      · simp [Builtin.append_, run_underlying Try.underlying32, sizeOf, typeInfo, hi, Builtin.lenOf, Builtin.firstCells, hnc, storeCells]
    · obtain ⟨v', w', hr, h1, h2, _, h4⟩ := run_append_own_at (P := Try.prog) w B 32 ty 5 i0 (.int .u8 0) 1 1 Try.underlying32 hi hz0 hz1 hz2 rfl (by decide) v 0 [] hown ad n c ((List.range n).map fun i => Value.int .u8 (L.getD i 0)) (by simp) (fun j u hj => by
        have hjn : j < n := by
          rcases Nat.lt_or_ge j n with q | q
          · exact q
          · rw [List.getElem?_eq_none (by simpa using q)] at hj; cases hj
        rw [List.getElem?_map, List.getElem?_range hjn] at hj
        have e : Value.int .u8 (L.getD j 0) = u := by simpa using hj
        rw [← e]
        exact (hcell j hjn).1) (by intro u hu; simp at hu; obtain ⟨j, _, rfl⟩ := hu; rfl) (by unfold maxLen; omega) (by omega) hB
      refine ⟨v', w', hr, by simpa using h1, fun w0 h => ?_, h2.size⟩
      exact h.trans ((fr_of_grown h2).below hB (fun k hk e => by have := hbl k e.symm; omega))
  obtain ⟨v', w', h1, h2, h3, h4⟩ := hL L.length rfl hx
  rw [range_getD] at h2
  exact ⟨v', w', h1, h2, h3, h4⟩
/-- one byte more -/
theorem app_byte {w : World} {B n X : Nat} {v : Value} {xs : List Value} (ty : TypeId) (b : Int) (hown : w.ownsRow B 5 1 v n xs) (hX : X = w.heap.size) (hB : B ≤ w.heap.size) (hm : n ≤ 100000) :
    ∃ v' w', (Builtin.append_ #[32, 32] ty #[v, .slice (some ⟨X, 0, none⟩) 1 1]).run Try.prog (w.alloc (.cells #[.int .u8 b] 5)) = .ok v' w' ∧ w'.ownsRow B 5 1 v' (n + 1) (xs ++ [.int .u8 b]) ∧ (∀ w0, Below B w0 w → Below B w0 w') ∧ w.heap.size ≤ w'.heap.size := by
  subst hX
  obtain ⟨i0, hi, hi3⟩ := Option.map_eq_some_iff.1 info_u8
  simp only [Prod.mk.injEq] at hi3
  obtain ⟨hz0, hz1, hz2⟩ := hi3
  have hbl : ∀ k, v.ownBlock = some k → B ≤ k := by
    rcases hown.2 with ⟨rfl, _⟩ | ⟨g, cap, cur, rfl, hg, _⟩
    · intro k e; cases e
    · intro k e; cases e; exact hg
  have hs : (w.alloc (.cells #[.int .u8 b] 5)).heap.size = w.heap.size + 1 := Array.size_push ..
  obtain ⟨v', w', hr, h1, h2, _, h4⟩ := run_append_own_at (P := Try.prog) (w.alloc (.cells #[.int .u8 b] 5)) B 32 ty 5 i0 (.int .u8 0) 1 1 Try.underlying32 hi hz0 hz1 hz2 rfl (by decide) v n xs (World.ownsRow.alloc hown _) ⟨w.heap.size, 0, none⟩ 1 1 [.int .u8 b] rfl
    (World.news_of_block (heap_alloc_new w _)) (by intro u hu; simp at hu; subst hu; rfl) (by unfold maxLen; omega) (by omega) (by rw [hs]; omega)
  refine ⟨v', w', hr, h1, fun w0 h => ?_, by have := h2.size; omega⟩
  exact (h.alloc hB _).trans ((fr_of_grown h2).below (by rw [hs]; omega) (fun k hk e => by have := hbl k e.symm; omega))
/-- a part is another one, that is nobody's -/
theorem Sep.rep {K K2 : Nat → Nat → Prop} (h : Sep K) (i : Nat) (h2 : ∀ j k, j < 6 → K2 j k → (j ≠ i ∧ K j k) ∨ (j = i ∧ ∀ l, l < 6 → ¬ K l k)) : Sep K2 := by
  intro a b k ha hb hab hk hk2
  rcases h2 a k ha hk with ⟨_, e1⟩ | ⟨rfl, e1⟩
  · rcases h2 b k hb hk2 with ⟨_, e2⟩ | ⟨rfl, e2⟩
    · exact h a b k ha hb hab e1 e2
    · exact e2 a ha e1
  · rcases h2 b k hb hk2 with ⟨_, e2⟩ | ⟨rfl, e2⟩
    · exact e1 b hb e2
    · exact hab rfl
section
variable {w w' : World} {m r y : Nat} {O : Nat → Prop} {p n : Nat} {V : SV} {S : BS}
theorem CB.setG (m : Nat) (O : Nat → Prop) (V : SV) (w0 w : World) (i : Nat) (v : Value) (V2 : SV) (f : Fr (fun _ => False) w0 w) (h2 : ∀ k, OwnB m O V2 k → OwnB m O V k ∨ w0.heap.size ≤ k) : CB m O V V2 w0 (w.setCell ⟨m, i, none⟩ v) :=
  ⟨(f.mono (fun _ e => e.elim)).setCell (x := ⟨m, i, none⟩) (.inl (show OwnB m O V m from ⟨0, by omega, rfl⟩)) v, h2⟩
/-- a byte is to go -/
def sendB (b now : Int) (S : BS) : BS := if S.goes.length < 16 then (if S.goes.length = 0 then armS 3 (now + 8) { S with goes := S.goes ++ [b] } else { S with goes := S.goes ++ [b] }) else S
def wrU (k : Nat) (v now : Int) (S : BS) : BS := match k with
  | 0 => sendB (v % 256) now S
  | 1 => { S with lost := if v / 4 % 2 = 1 then false else S.lost }
  | 2 => { S with uc := v % 4 }
  | _ => S
theorem own_le {w : World} {base base' size n : Nat} {e : TypeId} {v : Value} {xs : List Value} (h : w.ownsRow base e size v n xs) (hb : base' ≤ base) : w.ownsRow base' e size v n xs :=
  ⟨h.1, h.2.elim Or.inl (fun ⟨g, cap, cur, hv, hg, r⟩ => Or.inr ⟨g, cap, cur, hv, Nat.le_trans hb hg, r⟩)⟩
theorem and3 (v : Int) (h0 : 0 ≤ v) (h1 : v < 4294967296) : bits .and .u32 v 3 = v % 4 := by
  have := Go.u32_and_nat v.toNat 3 (by omega) (by omega)
  rw [show ((v.toNat : Nat) : Int) = v by omega] at this
  rw [show ((3 : Nat) : Int) = 3 from rfl] at this
  rw [this, show (3 : Nat) = 2 ^ 2 - 1 from rfl, Nat.and_two_pow_sub_one_eq_mod]
  omega
theorem and4 (v : Int) (h0 : 0 ≤ v) (h1 : v < 4294967296) : bits .and .u32 v 4 = if v / 4 % 2 = 1 then 4 else 0 := by
  have := Go.u32_and_nat v.toNat 4 (by omega) (by omega)
  rw [show ((v.toNat : Nat) : Int) = v by omega] at this
  rw [show ((4 : Nat) : Int) = 4 from rfl] at this
  rw [this, show (4 : Nat) = 2 ^ 3 - 2 ^ 2 from rfl, nat_midmask 3 2 _ (by decide)]
  split <;> omega
end
end Go.Proofs.Ytkfedihaldpgmaa
