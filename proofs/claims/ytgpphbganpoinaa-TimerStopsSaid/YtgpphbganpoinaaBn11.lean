/-
  Chapter 11: the document's bus: New.
-/
import Derived.Test.YtgpphbganpoinaaBx11
namespace Go.Proofs.Ytgpphbganpoinaa
open Go.RowKit
set_option linter.unusedVariables false
set_option linter.unusedSimpArgs false
theorem info_u8 : (Try.prog.info? 5).map (fun i => (i.zero, i.size, i.bytes)) = some (some (.int .u8 0), 1, 1) := by kernel_rfl
theorem info_bool : (Try.prog.info? 4).map (fun i => (i.zero, i.size, i.bytes)) = some (some (.bool false), 1, 1) := by kernel_rfl
section
variable (w : World) (A B C E : Obj)
theorem a4d : ((((w.alloc A).alloc B).alloc C).alloc E).drew.heap[w.heap.size + 1 + 1 + 1]? = some E := by
  have h := Deep.blk_alloc_new (((w.alloc A).alloc B).alloc C) E
  simp only [Deep.nblk_alloc] at h; exact h
theorem a4below : Below w.heap.size w ((((w.alloc A).alloc B).alloc C).alloc E).drew :=
  (((((Below.refl _ w).alloc (Nat.le_refl _) A).alloc (by simp) B).alloc (by simp; omega) C).alloc (by simp; omega) E).drew
end
set_option maxHeartbeats 2000000 in
theorem rnew1 (w : World) : Calls Try.prog 30 #[.int .i64 1] w fun e w' => ∃ r b, e = .returned (.pointer (some ⟨r, 0, none⟩)) ∧ w'.cell? ⟨r, 0, none⟩ = some (.slice (some ⟨b, 0, none⟩) 1024 1024) ∧ Below w.heap.size w w' := by
  have hm1 : ∀ w, (Instr.makeSlice 55 (.int .i64 1024) (.int .i64 1024)).run Try.prog w = .ok (.slice (some ⟨w.heap.size, 0, none⟩) 1024 1024) (w.alloc (.cells (madeCells #[.int .u8 0] 1024) 5)) :=
    run_make_row' (P := Try.prog) 55 5 (.int .u8 0) 1 Try.underlying55 info_u8 rfl .i64 .i64 1024 (by omega) (by omega)
  have hm2 : ∀ w, (Instr.makeSlice 78 (.int .i64 1) (.int .i64 1)).run Try.prog w = .ok (.slice (some ⟨w.heap.size, 0, none⟩) 1 1) (w.alloc (.cells (madeCells #[.bool false] 1) 4)) :=
    run_make_row' (P := Try.prog) 78 4 (.bool false) 1 Try.underlying78 info_bool rfl .i64 .i64 1 (by omega) (by omega)
  go_enter Try.func30, Try.ntmps30
  go_wp2
  go_region
  all_goals
    go_wp2
    go_ret
    exact ⟨_, _, rfl, (cell_of_row _ _ 0 _ _ (0, 0) (a4d _ _ _ _ _)).trans rfl, a4below _ _ _ _ _⟩
/-- the cells of a new bus -/
def bc (r : Nat) (x : Value) : Nat → Value
  | 0 => .pointer (some ⟨r, 0, none⟩)
  | 1 => .slice none 0 0
  | 2 => .int .i64 0
  | 3 => .int .u32 0
  | 4 => .int .u32 0
  | 5 => .int .u32 0
  | 6 => .int .u32 0
  | 7 => .int .u32 0
  | 8 => .int .u32 0
  | 9 => .slice none 0 0
  | 10 => .slice none 0 0
  | 11 => .bool false
  | 12 => .int .u32 0
  | 13 => .slice none 0 0
  | 14 => .int .u32 0
  | 15 => .int .u32 0
  | 16 => .int .u32 0
  | 17 => .int .u32 0
  | 18 => .int .u32 0
  | 19 => .int .u32 0
  | 20 => .int .u32 0
  | 21 => .int .u32 0
  | 22 => x
  | 23 => .int .u32 0
  | _ => .int .u32 0
theorem bus_new (w : World) (r : Nat) (x : Value) {d : Int} {o : Nat} (ho : Dv d o) : Bu (bc r x) o (w.alloc (.cells #[.pointer (some ⟨r, 0, none⟩), .slice none 0 0, .int .i64 0, .int .u32 0, .int .u32 0, .int .u32 0, .int .u32 0, .int .u32 0, .int .u32 0, .slice none 0 0, .slice none 0 0, .bool false, .int .u32 0, .slice none 0 0, .int .u32 0, .int .u32 0, .int .u32 0, .int .u32 0, .int .u32 0, .int .u32 0, .int .u32 0, .int .u32 0, x, .int .u32 0, .int .u32 0] 63)) w.heap.size d (.slice none 0 0) ⟨false, false, false, 0, none, 0⟩ := by
  refine ⟨World.rowIs_alloc w _ _ _ fun i hi => ?_, World.ownsRow_nil _ _ _ _, by simp [Value.ownBlock]⟩
  have hi : i < 25 := hi
  rcases ho with ⟨_, rfl⟩ | ⟨_, rfl⟩
  all_goals
    have : i = 0 ∨ i = 1 ∨ i = 2 ∨ i = 3 ∨ i = 4 ∨ i = 5 ∨ i = 6 ∨ i = 7 ∨ i = 8 ∨ i = 9 ∨ i = 10 ∨ i = 11 ∨ i = 12 ∨ i = 13 ∨ i = 14 ∨ i = 15 ∨ i = 16 ∨ i = 17 ∨ i = 18 ∨ i = 19 ∨ i = 20 ∨ i = 21 ∨ i = 22 ∨ i = 23 ∨ i = 24 := by omega
    rcases this with rfl | rfl | rfl | rfl | rfl | rfl | rfl | rfl | rfl | rfl | rfl | rfl | rfl | rfl | rfl | rfl | rfl | rfl | rfl | rfl | rfl | rfl | rfl | rfl | rfl <;> rfl
/-- copy from nothing -/
theorem copy_nil (W : World) (ty : TypeId) (a : Option Addr) (n c : Nat) : (Builtin.copy_ #[55, 55] ty #[.slice a n c, .slice none 0 0]).run Try.prog W = .ok (.int .i64 0) W := by
  obtain ⟨i0, hi, hi3⟩ := Option.map_eq_some_iff.1 info_u8
  simp only [Prod.mk.injEq] at hi3
  obtain ⟨hz0, hz1, hz2⟩ := hi3
  simp [Builtin.copy_, run_underlying Try.underlying55, Builtin.lenOf, Builtin.firstCells, sizeOf, typeInfo, hi, hz1, storeCells]
  cases a <;> rfl
set_option maxRecDepth 100000 in
set_option maxHeartbeats 2000000 in
theorem bnew_any (w : World) {d : Int} {o : Nat} (ho : Dv d o) : Calls Try.prog 17 #[.int .i64 1, .slice none 0 0, .slice none 0 0] w fun e w' => ∃ (C : Nat → Value) (m : Nat), w.heap.size ≤ m ∧ e = .returned (.pointer (some ⟨m, 0, none⟩)) ∧ Bu C o w' m d (.slice none 0 0) ⟨false, false, false, 0, none, 0⟩ ∧ Below w.heap.size w w' := by
  have hm1 : ∀ w, (Instr.makeSlice 55 (.int .i64 0) (.int .i64 0)).run Try.prog w = .ok (.slice (some ⟨w.heap.size, 0, none⟩) 0 0) (w.alloc (.cells (madeCells #[.int .u8 0] 0) 5)) :=
    run_make_row' (P := Try.prog) 55 5 (.int .u8 0) 1 Try.underlying55 info_u8 rfl .i64 .i64 0 (by omega) (by omega)
  go_enter Try.func17, Try.ntmps17
  go_wp2_with fail
  with_reducible refine (rnew1 w).mono ?_
  rintro e w1 ⟨r, b, rfl, hr, hb⟩
  have hrl := block_lt_of_cell hr
  have hB := bus_new w1 r (.slice (some ⟨w1.heap.size + 1, 0, none⟩) 0 0) ho
  have hcp := fun W a n c => copy_nil W 3 a n c
  go_wp2_with fail
  go_ret
  have hs := hb.size
  exact ⟨_, w1.heap.size, hs, rfl, hB.below ((Below.refl _ _).alloc (Nat.le_refl _) _), (hb.alloc hs _).alloc (by simp; omega) _⟩
end Go.Proofs.Ytgpphbganpoinaa
