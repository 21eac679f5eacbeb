/-
  Chapter 15: the document's bus: B1 of the uart's event, in the one state.
-/
import Derived.Test.YtkfedihaldpgmaaBb15
namespace Go.Proofs.Ytkfedihaldpgmaa
open Go.RowKit
set_option linter.unusedVariables false
set_option linter.unusedSimpArgs false
theorem app_out {w : World} {v : Value} {L : List Int} (ty : TypeId) (b : Int) (h : Ob w v L) (hm : L.length ≤ 100000) :
    ∃ v' w', (Builtin.append_ #[32, 32] ty #[v, .slice (some ⟨w.heap.size, 0, none⟩) 1 1]).run Try.prog (w.alloc (.cells #[.int .u8 b] 5)) = .ok v' w' ∧ w'.ownsRow 0 5 1 v' (L.length + 1) (L.map (Value.int .u8) ++ [.int .u8 b]) ∧ Fr (fun k => v.ownBlock = some k) w w' ∧ (∀ k, v'.ownBlock = some k → v.ownBlock = some k ∨ w.heap.size ≤ k) := by
  obtain ⟨i0, hi, hi3⟩ := Option.map_eq_some_iff.1 info_u8
  simp only [Prod.mk.injEq] at hi3
  obtain ⟨hz0, hz1, hz2⟩ := hi3
  have hs : (w.alloc (.cells #[.int .u8 b] 5)).heap.size = w.heap.size + 1 := Array.size_push ..
  obtain ⟨v', w', hr, h1, h2, _, h4⟩ := run_append_own_at (P := Try.prog) (w.alloc (.cells #[.int .u8 b] 5)) 0 32 ty 5 i0 (.int .u8 0) 1 1 Try.underlying32 hi hz0 hz1 hz2 rfl (by decide) v L.length (L.map (Value.int .u8)) (World.ownsRow.alloc h.1 _) ⟨w.heap.size, 0, none⟩ 1 1 [.int .u8 b] rfl
    (World.news_of_block (heap_alloc_new w _)) (by intro u hu; simp at hu; subst hu; rfl) (by unfold maxLen; omega) (by omega) (Nat.zero_le _)
  refine ⟨v', w', hr, h1, ?_, fun k hk => ?_⟩
  · have f1 : Fr (fun k => v.ownBlock = some k) w (w.alloc (.cells #[.int .u8 b] 5)) := (Fr.refl _ w).alloc _
    exact f1.trans ⟨h2.os, h2.tape, h2.output, h2.size, fun i hi hn => h2.block i hi (fun e => hn e.symm)⟩
  · rcases h4 with e | e
    · exact .inl (e ▸ hk)
    · rw [e] at hk; cases hk; exact .inr (by rw [hs]; omega)
/-- what is behind the first of one's bytes -/
theorem tail_by {w : World} {v : Value} {b : Int} {L : List Int} (h : Ob w v (b :: L)) : ∃ g c x, v = .slice (some ⟨g, 0, none⟩) (L.length + 1) c ∧ L.length + 1 ≤ c ∧ w.cell? ⟨g, 0, none⟩ = some (.int .u8 b) ∧ (∀ w2, (Instr.slice 32 v (some (.int .i64 1)) none none).run Try.prog w2 = .ok x w2) ∧ ByAt (fun k => v.ownBlock = some k) w x L.length (fun i => L.getD i 0) := by
  rcases h.1.2 with ⟨rfl, hn⟩ | ⟨g, cap, cur, rfl, hb, hh, hc, _⟩
  · exact absurd hn (by simp)
  · have hcell : ∀ i, i < L.length + 1 → w.cell? ⟨g, i, none⟩ = some (.int .u8 ((b :: L).getD i 0)) := by
      intro i hi
      have hi2 : i < (b :: L).length := by simpa using hi
      have := h.1.cellAt i (by simpa using hi)
      rw [this, ← range_getD, List.getElem?_map, List.getElem?_range hi2]
      rfl
    have hbd : ∀ i, 0 ≤ L.getD i 0 ∧ L.getD i 0 ≤ 255 := getD_bd (fun x hx => h.2 x (List.mem_cons_of_mem _ hx))
    have hc' : L.length + 1 ≤ cap := by simpa using hc
    have hrun : ∀ w2, (Instr.slice 32 (.slice (some ⟨g, 0, none⟩) (L.length + 1) cap) (some (.int .i64 1)) none none).run Try.prog w2 = .ok (.slice (some ⟨g, if cap = 1 then 0 else 1, none⟩) L.length (cap - 1)) w2 := by
      intro w2
      rw [run_slice_l (ht := und_u8) (h0 := by omega) (h1 := by omega), size1_u8]
      show Result.ok (sliced (some ⟨g, 0, none⟩) 1 (L.length + 1) cap 1) w2 = _
      unfold sliced
      by_cases e : cap = 1
      · rw [if_pos e, if_pos e, Nat.add_sub_cancel]
      · rw [if_neg e, if_neg e, Nat.add_sub_cancel]
        show Result.ok (Value.slice (some ((⟨g, 0, none⟩ : Addr).add (1 * 1))) L.length (cap - 1)) w2 = _
        rw [add_none]
    refine ⟨g, cap, _, rfl, hc', by simpa using hcell 0 (by omega), hrun, ?_⟩
    by_cases e : L.length = 0
    · refine .inr ⟨⟨g, _, none⟩, cap - 1, rfl, by omega, fun h0 => absurd h0 (by omega), fun i hi => absurd hi (by omega)⟩
    · have e1 : (if cap = 1 then 0 else 1) = 1 := if_neg (by omega)
      refine .inr ⟨⟨g, _, none⟩, cap - 1, rfl, by omega, fun _ => ⟨rfl, rfl⟩, fun i hi => ⟨?_, hbd i⟩⟩
      rw [add_none, e1, hcell (1 + i) (by omega), Nat.add_comm 1 i, List.getD_cons_succ]
section
variable {w w' : World} {m r y : Nat} {O : Nat → Prop} {p n : Nat} {V : SV} {S : BS}
end
end Go.Proofs.Ytkfedihaldpgmaa
