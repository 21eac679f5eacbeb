/-
  Chapter 13: the document's bus: New, of two pages.
-/
import Derived.Test.YtamaonkepfkgnaaBf13
namespace Go.Proofs.Ytamaonkepfkgnaa
open Go.RowKit
set_option linter.unusedVariables false
set_option linter.unusedSimpArgs false
theorem rnew2 (w : World) : Calls Try.prog 37 #[.int .i64 2] w fun e w' => ∃ r O b, e = .returned (.pointer (some ⟨r, 0, none⟩)) ∧ w'.cell? ⟨r, 0, none⟩ = some (.slice (some ⟨b, 0, none⟩) 2048 2048) ∧ (∀ k, O k → w.heap.size ≤ k) ∧ Ra 80 w' r O 2 Z0 ∧ Below w.heap.size w w' :=
  (nnew_any 2 2 rfl w).mono fun e w' ⟨r, O, he, ho, hm, hb⟩ => by
    obtain ⟨b, m, t, hO, hM⟩ := hm
    exact ⟨r, O, b, he, hM.cell0, ho, ⟨b, m, t, hO, hM⟩, hb⟩
/-- the cells of a new bus -/
def bc (r : Nat) (x : Value) : Nat → Value
  | 0 => .pointer (some ⟨r, 0, none⟩)
  | 1 => .slice none 0 0
  | 2 => .int .i64 0
  | 3 => .int .u32 0
  | 4 => .int .u32 0
  | 5 => .int .u32 0
  | 6 => .int .u32 0
  | 7 => .int .u32 0
  | 8 => .int .u32 0
  | 9 => .slice none 0 0
  | 10 => .slice none 0 0
  | 11 => .bool false
  | 12 => .int .u32 0
  | 13 => .slice none 0 0
  | 14 => .int .u32 0
  | 15 => .int .u32 0
  | 16 => .int .u32 0
  | 17 => .int .u32 0
  | 18 => .int .u32 0
  | 19 => .int .u32 0
  | 20 => .int .u32 0
  | 21 => .int .u32 0
  | 22 => x
  | 23 => .int .u32 0
  | _ => .int .u32 0
theorem bus_new (w : World) (r : Nat) (O : Nat → Prop) (x : Value) (hm : Ra 80 w r O 2 Z0) : Bu (bc r x) (w.alloc (.cells #[.pointer (some ⟨r, 0, none⟩), .slice none 0 0, .int .i64 0, .int .u32 0, .int .u32 0, .int .u32 0, .int .u32 0, .int .u32 0, .int .u32 0, .slice none 0 0, .slice none 0 0, .bool false, .int .u32 0, .slice none 0 0, .int .u32 0, .int .u32 0, .int .u32 0, .int .u32 0, .int .u32 0, .int .u32 0, .int .u32 0, .int .u32 0, x, .int .u32 0, .int .u32 0] 71)) w.heap.size r O 2 (.slice none 0 0) ⟨0, 0, 0, false, false, false, none, 0, Z0⟩ := by
  refine ⟨⟨World.rowIs_alloc w _ _ _ fun i hi => ?_, World.ownsRow_nil _ _ _ _, by simp [Value.ownBlock]⟩, hm.below ((Below.refl _ _).alloc (Nat.le_refl _) _), ?_⟩
  · have hi : i < 25 := hi
    have : i = 0 ∨ i = 1 ∨ i = 2 ∨ i = 3 ∨ i = 4 ∨ i = 5 ∨ i = 6 ∨ i = 7 ∨ i = 8 ∨ i = 9 ∨ i = 10 ∨ i = 11 ∨ i = 12 ∨ i = 13 ∨ i = 14 ∨ i = 15 ∨ i = 16 ∨ i = 17 ∨ i = 18 ∨ i = 19 ∨ i = 20 ∨ i = 21 ∨ i = 22 ∨ i = 23 ∨ i = 24 := by omega
    rcases this with rfl | rfl | rfl | rfl | rfl | rfl | rfl | rfl | rfl | rfl | rfl | rfl | rfl | rfl | rfl | rfl | rfl | rfl | rfl | rfl | rfl | rfl | rfl | rfl | rfl <;> rfl
  · rintro k (rfl | e)
    · intro e; exact Nat.lt_irrefl _ (hm.lt _ e)
    · cases e
/-- copy from nothing -/
theorem copy_nil (W : World) (ty : TypeId) (a : Option Addr) (n c : Nat) : (Builtin.copy_ #[32, 32] ty #[.slice a n c, .slice none 0 0]).run Try.prog W = .ok (.int .i64 0) W := by
  obtain ⟨i0, hi, hi3⟩ := Option.map_eq_some_iff.1 info_u8
  simp only [Prod.mk.injEq] at hi3
  obtain ⟨hz0, hz1, hz2⟩ := hi3
  simp [Builtin.copy_, run_underlying Try.underlying32, Builtin.lenOf, Builtin.firstCells, sizeOf, typeInfo, hi, hz1, storeCells]
  cases a <;> rfl
set_option maxRecDepth 100000 in
set_option maxHeartbeats 2000000 in
theorem bnew_any (w : World) : Calls Try.prog 20 #[.int .i64 2, .slice none 0 0, .slice none 0 0] w fun e w' => ∃ (C : Nat → Value) (m r : Nat) (O : Nat → Prop), (∀ k, O k → w.heap.size ≤ k) ∧ w.heap.size ≤ m ∧ e = .returned (.pointer (some ⟨m, 0, none⟩)) ∧ Bu C w' m r O 2 (.slice none 0 0) ⟨0, 0, 0, false, false, false, none, 0, Z0⟩ ∧ Below w.heap.size w w' := by
  have hm1 : ∀ w, (Instr.makeSlice 32 (.int .i64 0) (.int .i64 0)).run Try.prog w = .ok (.slice (some ⟨w.heap.size, 0, none⟩) 0 0) (w.alloc (.cells (madeCells #[.int .u8 0] 0) 5)) :=
    run_make_row' (P := Try.prog) 32 5 (.int .u8 0) 1 Try.underlying32 info_u8 rfl .i64 .i64 0 (by omega) (by omega)
  go_enter Try.func20, Try.ntmps20
  go_wp2_with fail
  with_reducible refine (rnew2 w).mono ?_
  rintro e w1 ⟨r, O, b, rfl, hr, ho, hm, hb⟩
  have hrl := block_lt_of_cell hr
  have hB := bus_new w1 r O (.slice (some ⟨w1.heap.size + 1, 0, none⟩) 0 0) hm
  have hcp := fun W a n c => copy_nil W 3 a n c
  go_wp2_with fail
  go_ret
  have hs := hb.size
  exact ⟨_, w1.heap.size, r, O, ho, hs, rfl, hB.below ((Below.refl _ _).alloc (Nat.le_refl _) _), (hb.alloc hs _).alloc (by simp; omega) _⟩
end Go.Proofs.Ytamaonkepfkgnaa
