/-
  Chapter 2: New, of the program's memory and of the document's.
-/
import Derived.Test.YtkfedihaldpgmaaRn13
import Derived.RegionTactic
import Derived.BigRegion
import Derived.Deep.Draws
namespace Go.Proofs.Ytkfedihaldpgmaa
open Go.RowKit
set_option linter.unusedVariables false

theorem info_u8 : (Try.prog.info? 5).map (fun i => (i.zero, i.size, i.bytes)) = some (some (.int .u8 0), 1, 1) := by kernel_rfl
theorem info_bool : (Try.prog.info? 4).map (fun i => (i.zero, i.size, i.bytes)) = some (some (.bool false), 1, 1) := by kernel_rfl
/-- how many pages New makes -/
def clampP (n : Int) : Nat := (max 1 (min n 64)).toNat
theorem clamp1 (n : Int) : 1 ≤ clampP n := by unfold clampP; omega
theorem clamp2 (n : Int) : clampP n ≤ 64 := by unfold clampP; omega
/-- a new memory, all 0, nothing marked; its blocks are new -/
def NewP (T : TypeId) (w : World) (p : Nat) (e : Ending) (w' : World) : Prop :=
  ∃ g b m t, e = .returned (.pointer (some ⟨g, 0, none⟩)) ∧ w.heap.size ≤ g ∧ w.heap.size ≤ b ∧ w.heap.size ≤ m ∧ w.heap.size ≤ t ∧ Mem T w' g b m t p (fun _ => 0) (fun _ => false) (fun _ => false) ∧ Below w.heap.size w w'

section
variable (w : World) (A B C E : Obj)
theorem a1 : (w.alloc A).heap[w.heap.size]? = some A := Deep.blk_alloc_new w A
theorem a2b : ((w.alloc A).alloc B).heap[w.heap.size + 1]? = some B := by
  have h := Deep.blk_alloc_new (w.alloc A) B
  rw [Deep.nblk_alloc] at h; exact h
theorem a2a : ((w.alloc A).alloc B).heap[w.heap.size]? = some A := (Deep.blk_alloc_lt _ B _ (by rw [Deep.nblk_alloc]; omega)).trans (a1 w A)
theorem a4a : ((((w.alloc A).alloc B).alloc C).alloc E).drew.heap[w.heap.size]? = some A :=
  (Deep.blk_alloc_lt _ E _ (by simp only [Deep.nblk_alloc]; omega)).trans ((Deep.blk_alloc_lt _ C _ (by simp only [Deep.nblk_alloc]; omega)).trans (a2a w A B))
theorem a4b : ((((w.alloc A).alloc B).alloc C).alloc E).drew.heap[w.heap.size + 1]? = some B :=
  (Deep.blk_alloc_lt _ E _ (by simp only [Deep.nblk_alloc]; omega)).trans ((Deep.blk_alloc_lt _ C _ (by simp only [Deep.nblk_alloc]; omega)).trans (a2b w A B))
theorem a4c : ((((w.alloc A).alloc B).alloc C).alloc E).drew.heap[w.heap.size + 1 + 1]? = some C := by
  refine (Deep.blk_alloc_lt _ E _ (by simp only [Deep.nblk_alloc]; omega)).trans ?_
  have h := a2b (w.alloc A) B C
  rw [Deep.nblk_alloc] at h; exact h
theorem a4d : ((((w.alloc A).alloc B).alloc C).alloc E).drew.heap[w.heap.size + 1 + 1 + 1]? = some E := by
  have h := a2b ((w.alloc A).alloc B) C E
  simp only [Deep.nblk_alloc] at h; exact h
theorem a4below : Below w.heap.size w ((((w.alloc A).alloc B).alloc C).alloc E).drew :=
  (((((Below.refl _ w).alloc (Nat.le_refl _) A).alloc (by simp) B).alloc (by simp; omega) C).alloc (by simp; omega) E).drew
end
theorem mem_of {T : TypeId} {w' : World} {g b m t p : Nat} (hg : w'.heap[g]? = some (.cells #[.slice (some ⟨b, 0, none⟩) (1024 * p) (1024 * p), .slice (some ⟨m, 0, none⟩) p p, .slice (some ⟨t, 0, none⟩) p p] T))
    (hb : w'.heap[b]? = some (.cells (madeCells #[.int .u8 0] (1024 * p)) 5)) (hm : w'.heap[m]? = some (.cells (madeCells #[.bool false] p) 4)) (ht : w'.heap[t]? = some (.cells (madeCells #[.bool false] p) 4))
    (gb : g ≠ b) (gm : g ≠ m) (gt : g ≠ t) (bm : b ≠ m) (bt : b ≠ t) (mt : m ≠ t) (p1 : 1 ≤ p) (p2 : p ≤ 64) : Mem T w' g b m t p (fun _ => 0) (fun _ => false) (fun _ => false) where
  st := ⟨_, hg, rfl, fun i hi => by
    have : i = 0 ∨ i = 1 ∨ i = 2 := by omega
    rcases this with rfl | rfl | rfl <;> rfl⟩
  hb := ⟨_, hb, size_madeCells _ _, fun i hi => by simp [madeCells, hi, Nat.mod_one]⟩
  hm := ⟨_, hm, size_madeCells _ _, fun i hi => by simp [madeCells, hi, Nat.mod_one]⟩
  ht := ⟨_, ht, size_madeCells _ _, fun i hi => by simp [madeCells, hi, Nat.mod_one]⟩
  gb := gb
  gm := gm
  gt := gt
  bm := bm
  bt := bt
  mt := mt
  p1 := p1
  p2 := p2
  c0 := fun _ => by omega
  c1 := fun _ => by omega

set_option maxHeartbeats 2000000 in
theorem new_any (n : Int) (w : World) :
    Calls Try.prog 10 #[.int .i64 n] w (NewP 63 w (clampP n)) := by
  by_cases hn : n < 1
  · rw [show clampP n = 1 by unfold clampP; omega]
    have hx : ¬ 64 < n := by omega
    have hm1 : ∀ w, (Instr.makeSlice 32 (.int .i64 1024) (.int .i64 1024)).run Try.prog w = .ok (.slice (some ⟨w.heap.size, 0, none⟩) (1024 * 1) (1024 * 1)) (w.alloc (.cells (madeCells #[.int .u8 0] (1024 * 1)) 5)) := by
      have := run_make_row' (P := Try.prog) 32 5 (.int .u8 0) 1 Try.underlying32 info_u8 rfl .i64 .i64 (1024 * 1) (by omega) (by omega)
      rw [show ((1024 * 1 : Nat) : Int) = 1024 by omega] at this
      exact this
    have hm2 : ∀ w, (Instr.makeSlice 61 (.int .i64 1) (.int .i64 1)).run Try.prog w = .ok (.slice (some ⟨w.heap.size, 0, none⟩) 1 1) (w.alloc (.cells (madeCells #[.bool false] 1) 4)) :=
      run_make_row' (P := Try.prog) 61 4 (.bool false) 1 Try.underlying61 info_bool rfl .i64 .i64 1 (by omega) (by omega)
    go_enter Try.func10, Try.ntmps10
    go_wp2
    go_region
    all_goals
      go_wp2
      go_ret
      exact ⟨_, _, _, _, rfl, by omega, by omega, by omega, by omega, mem_of (p := 1) (a4d _ _ _ _ _) (by first | exact a4a _ _ _ _ _ | exact a4b _ _ _ _ _ | exact a4c _ _ _ _ _) (by first | exact a4a _ _ _ _ _ | exact a4b _ _ _ _ _ | exact a4c _ _ _ _ _) (by first | exact a4a _ _ _ _ _ | exact a4b _ _ _ _ _ | exact a4c _ _ _ _ _) (by omega) (by omega) (by omega) (by omega) (by omega) (by omega) (by omega) (by omega), a4below _ _ _ _ _⟩
  · by_cases hn2 : 64 < n
    · rw [show clampP n = 64 by unfold clampP; omega]
      have hm1 : ∀ w, (Instr.makeSlice 32 (.int .i64 65536) (.int .i64 65536)).run Try.prog w = .ok (.slice (some ⟨w.heap.size, 0, none⟩) (1024 * 64) (1024 * 64)) (w.alloc (.cells (madeCells #[.int .u8 0] (1024 * 64)) 5)) := by
        have := run_make_row' (P := Try.prog) 32 5 (.int .u8 0) 1 Try.underlying32 info_u8 rfl .i64 .i64 (1024 * 64) (by omega) (by omega)
        rw [show ((1024 * 64 : Nat) : Int) = 65536 by omega] at this
        exact this
      have hm2 : ∀ w, (Instr.makeSlice 61 (.int .i64 64) (.int .i64 64)).run Try.prog w = .ok (.slice (some ⟨w.heap.size, 0, none⟩) 64 64) (w.alloc (.cells (madeCells #[.bool false] 64) 4)) :=
        run_make_row' (P := Try.prog) 61 4 (.bool false) 1 Try.underlying61 info_bool rfl .i64 .i64 64 (by omega) (by omega)
      go_enter Try.func10, Try.ntmps10
      go_wp2
      go_region
      all_goals
        go_wp2
        go_ret
        exact ⟨_, _, _, _, rfl, by omega, by omega, by omega, by omega, mem_of (p := 64) (a4d _ _ _ _ _) (by first | exact a4a _ _ _ _ _ | exact a4b _ _ _ _ _ | exact a4c _ _ _ _ _) (by first | exact a4a _ _ _ _ _ | exact a4b _ _ _ _ _ | exact a4c _ _ _ _ _) (by first | exact a4a _ _ _ _ _ | exact a4b _ _ _ _ _ | exact a4c _ _ _ _ _) (by omega) (by omega) (by omega) (by omega) (by omega) (by omega) (by omega) (by omega), a4below _ _ _ _ _⟩
    · obtain ⟨p, rfl⟩ : ∃ p : Nat, n = p := ⟨n.toNat, by omega⟩
      rw [show clampP p = p by unfold clampP; omega]
      have hm1 : ∀ w, (Instr.makeSlice 32 (.int .i64 ((p : Int) * 1024)) (.int .i64 ((p : Int) * 1024))).run Try.prog w = .ok (.slice (some ⟨w.heap.size, 0, none⟩) (1024 * p) (1024 * p)) (w.alloc (.cells (madeCells #[.int .u8 0] (1024 * p)) 5)) := by
        have := run_make_row' (P := Try.prog) 32 5 (.int .u8 0) 1 Try.underlying32 info_u8 rfl .i64 .i64 (1024 * p) (by omega) (by omega)
        rw [show ((1024 * p : Nat) : Int) = ((p : Int) * 1024) by omega] at this
        exact this
      have hm2 : ∀ w, (Instr.makeSlice 61 (.int .i64 ((p : Nat) : Int)) (.int .i64 ((p : Nat) : Int))).run Try.prog w = .ok (.slice (some ⟨w.heap.size, 0, none⟩) p p) (w.alloc (.cells (madeCells #[.bool false] p) 4)) :=
        run_make_row' (P := Try.prog) 61 4 (.bool false) 1 Try.underlying61 info_bool rfl .i64 .i64 p (by omega) (by omega)
      go_enter Try.func10, Try.ntmps10
      go_wp2
      go_region
      all_goals
        go_wp2
        go_ret
        exact ⟨_, _, _, _, rfl, by omega, by omega, by omega, by omega, mem_of (p := p) (a4d _ _ _ _ _) (by first | exact a4a _ _ _ _ _ | exact a4b _ _ _ _ _ | exact a4c _ _ _ _ _) (by first | exact a4a _ _ _ _ _ | exact a4b _ _ _ _ _ | exact a4c _ _ _ _ _) (by first | exact a4a _ _ _ _ _ | exact a4b _ _ _ _ _ | exact a4c _ _ _ _ _) (by omega) (by omega) (by omega) (by omega) (by omega) (by omega) (by omega) (by omega), a4below _ _ _ _ _⟩

end Go.Proofs.Ytkfedihaldpgmaa
