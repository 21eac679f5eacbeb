/-
  Chapter 14: a number brought into bounds; Bytes into a row; bytes that came in.
-/
import Derived.Test.YtifhnidcdfpabaaBn14
namespace Go.Proofs.Ytifhnidcdfpabaa
open Go.RowKit
set_option linter.unusedVariables false
set_option linter.unusedSimpArgs false
/-- it returns a number from lo to hi, and the world stands -/
def InP (lo hi : Int) (w : World) (e : Ending) (w' : World) : Prop := ∃ v : Int, lo ≤ v ∧ v ≤ hi ∧ e = .returned (.int .i64 v) ∧ w = w'
theorem tmod_pos (n K : Int) (hK : 0 < K) : -K < n.tmod K ∧ n.tmod K < K := by
  by_cases h : 0 ≤ n
  · rw [Int.tmod_eq_emod_of_nonneg h]
    have := Int.emod_nonneg n (show K ≠ 0 by omega)
    have := Int.emod_lt_of_pos n hK
    omega
  · have e : n.tmod K = -((-n) % K) := by rw [← Int.tmod_eq_emod_of_nonneg (by omega), Int.neg_tmod]; omega
    have := Int.emod_nonneg (-n) (show K ≠ 0 by omega)
    have := Int.emod_lt_of_pos (-n) hK
    omega
set_option maxHeartbeats 400000 in
theorem within_any (n lo hi : Int) (w : World) (h0 : -1000000000 ≤ lo) (h1 : lo ≤ hi) (h2 : hi ≤ 1000000000) (n0 : -9223372036854775808 ≤ n) (n1 : n ≤ 9223372036854775807) :
    Calls Try.prog 19 #[.int .i64 n, .int .i64 lo, .int .i64 hi] w (InP lo hi w) := by
  by_cases hin : lo ≤ n ∧ n ≤ hi
  · obtain ⟨i0, i1⟩ := hin
    go_enter Try.func19, Try.ntmps19
    go_wp2
    go_ret
    exact ⟨n, i0, i1, rfl, rfl⟩
  · obtain ⟨t0, t1⟩ := tmod_pos n (hi - lo + 1) (by omega)
    have hd : (decide (lo ≤ n) && decide (n ≤ hi)) = false := by simp; omega
    by_cases hlo : lo ≤ n
    · have hh : ¬ n ≤ hi := by omega
      by_cases hneg : n.tmod (hi - lo + 1) < 0
      all_goals
        go_enter Try.func19, Try.ntmps19
        go_wp2
        go_ret
        exact ⟨_, by omega, by omega, rfl, rfl⟩
    · by_cases hneg : n.tmod (hi - lo + 1) < 0
      all_goals
        go_enter Try.func19, Try.ntmps19
        go_wp2
        go_ret
        exact ⟨_, by omega, by omega, rfl, rfl⟩

section
variable {w : World} {g b m t p : Nat} {C : Nat → Int} {M D : Nat → Bool}
set_option maxRecDepth 100000 in
set_option maxHeartbeats 1000000 in
theorem bytes_row (A N : Nat) (h : Mem 85 w g b m t p C M D) (hN : 0 < N) (hin2 : A + N ≤ 1024 * p) :
    Calls Try.prog 17 #[.pointer (some ⟨g, 0, none⟩), .int .u32 A, .int .i64 N] w fun e w' => ∃ X, w.heap.size ≤ X ∧ e = .returned (.tuple #[.slice (some ⟨X, 0, none⟩) N N, .bool true]) ∧ w'.rowIs X 5 N (fun i => .int .u8 (C (A + i))) ∧ Fr (fun _ => False) w w' := by
  have p2 := h.p2
  have c0 := h.cell0
  have HI : Hid (inB p A N = true) := by show _ = _; unfold inB; exact decide_eq_true (by omega)
  have hm1 := run_make_row' (P := Try.prog) 28 5 (.int .u8 0) 1 Try.underlying28 info_u8 rfl .i64 .i64 N (by omega) (by omega)
  have lg := h.st.lt
  have lb := h.hb.lt
  have hw := World.rowIs_made w (.int .u8 0) N 5
  have h2 := h.alloc (.cells (madeCells #[.int .u8 0] N) 5)
  have c0' := h2.cell0
  have hA2 : A < 1024 * p := by omega
  go_enter Try.func17, Try.ntmps17
  go_wp2_with fail
  refine (holds_any _ _ h (by omega) (by omega) (by omega) (by omega)).mono ?_
  rintro e w' ⟨rfl, rfl⟩
  rw [HI.out]
  go_wp2_with (with_reducible refine wpList_copy_row rfl (.tmp 16) (.tmp 22) 28 28 rfl 5 Try.underlying28 size_u8 _ _ _ _ _ _ rfl rfl w.heap.size 0 N 5 _ hw N ?hmin2 (fun i => .int .u8 (C (A + i))) ?hpos2 (by omega) (fun _ => rfl) ?_)
  case hmin2 => exact (Nat.min_eq_right (by omega)).symm
  case hpos2 => first | (intro _ j hj; exact h.hb.cell (i := A + j) (by omega)) | (intro j hj; exact h.hb.cell (i := A + j) (by omega))
  intro w1 hr1 hf1
  go_wp2
  go_ret2
  exact ⟨_, Nat.le_refl _, rfl, hr1.congr fun i hi => by simp [hi], fr_new hf1⟩
end
theorem mbytes_row {w : World} {r : Nat} {O : Nat → Prop} {p : Nat} {C : Nat → Int} (A N : Nat) (h : Ra 85 w r O p C) (hN : 0 < N) (hin : A + N ≤ 1024 * p) :
    Calls Try.prog 17 #[.pointer (some ⟨r, 0, none⟩), .int .u32 A, .int .i64 N] w fun e w' => ∃ X, w.heap.size ≤ X ∧ e = .returned (.tuple #[.slice (some ⟨X, 0, none⟩) N N, .bool true]) ∧ w'.rowIs X 5 N (fun i => .int .u8 (C (A + i))) ∧ Fr (fun _ => False) w w' := by
  obtain ⟨b, m, t, rfl, h⟩ := h
  exact bytes_row A N h hN hin
/-- a slice of bytes that came in, and its beginnings -/
def InBy (W : World) (A : Option Addr) (len cap : Nat) : Prop := ∃ f : Nat → Int, len ≤ cap ∧ len ≤ 9223372036854775807 ∧ ∀ m, m ≤ len → ByAt (fun k => k < W.heap.size) W (.slice A m cap) m f
theorem Ra.bd {T : TypeId} {w : World} {r : Nat} {O : Nat → Prop} {p : Nat} {C : Nat → Int} (h : Ra T w r O p C) (i : Nat) : 0 ≤ C i ∧ C i ≤ 255 := ⟨h.c0 i, h.c1 i⟩
theorem row_by {w : World} {X N : Nat} {f : Nat → Int} (h : w.rowIs X 5 N (fun i => .int .u8 (f i))) (hb : ∀ i, 0 ≤ f i ∧ f i ≤ 255) : ByAt (fun _ => True) w (.slice (some ⟨X, 0, none⟩) N N) N f :=
  .inr ⟨⟨X, 0, none⟩, N, rfl, Nat.le_refl _, fun _ => ⟨rfl, trivial⟩, fun i hi => ⟨by rw [add_none, Nat.zero_add]; exact h.cell hi, hb i⟩⟩
theorem kbytes_row {w : World} {r y : Nat} {O : Nat → Prop} {p n : Nat} {C D : Nat → Int} (A N : Nat) (h : Mk 85 w r y O p n C D) (hN : 0 < N) (hin : A + N ≤ 1024 * p) :
    Calls Try.prog 17 #[.pointer (some ⟨r, 0, none⟩), .int .u32 A, .int .i64 N] w fun e w' => ∃ X, w.heap.size ≤ X ∧ e = .returned (.tuple #[.slice (some ⟨X, 0, none⟩) N N, .bool true]) ∧ w'.rowIs X 5 N (fun i => .int .u8 (C (A + i))) ∧ Fr (fun _ => False) w w' := by
  obtain ⟨M, _, _, hm, _⟩ := h
  exact mbytes_row A N hm hN hin
end Go.Proofs.Ytifhnidcdfpabaa
