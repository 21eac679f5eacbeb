/-
  Chapter 2: some of its runs (function 'known').
-/
import Derived.Test.YtfpddhpacfcfmaaBytes
import Derived.Test.YtfpddhpacfcfmaaLoad
namespace Go.Proofs.Ytfpddhpacfcfmaa
open Go.RowKit
set_option linter.unusedVariables false

theorem below_own {w w1 w2 : World} {b m t : Nat} (h : Below w.heap.size w w1) (hb : w.heap.size ≤ b) (hm : w.heap.size ≤ m) (ht : w.heap.size ≤ t) (f : Fr (Own b m t) w1 w2) : Below w.heap.size w w2 :=
  h.trans (f.below h.size (by rintro k hk (rfl | rfl | rfl) <;> omega))
/-- it returns true, and nothing that was there has turned -/
def TrB (w : World) (e : Ending) (w' : World) : Prop := e = .returned (.bool true) ∧ Below w.heap.size w w'

def K0 : Nat → Int := fun _ => 0
def KF : Nat → Bool := fun _ => false
def K1 : Nat → Int := aC 1 K0 0 4 16909060
def KD1 : Nat → Bool := aD 1 KF KF 0 4
def KM : Nat → Bool := setP 1 KF 0 true
def one1 : Nat → Int := fun _ => 1
def K2 : Nat → Int := uC 1 K1 5 1 one1
def KD2 : Nat → Bool := uD 1 KM KD1 5 1
theorem kn1 : okN 1 0 4 = true := by decide
theorem kn2 : loadV 1 K1 1 1 = .tuple #[.int .u32 2, .bool true] := by rfl
theorem kn3 : loadV 1 K1 2 4 = .tuple #[.int .u32 0, .bool false] := by rfl
theorem kn4 : inB 1 5 (1 : Nat) = true := by decide
theorem kn5 : wl KD2 1 = [0] := by rfl
theorem kn6 : inB 1 1024 (0 : Nat) = true := by decide
theorem kn7 : wl (clD KD2 1) 1 = [] := by rfl
theorem kn8 : clampP 1 = 1 := by decide
def KD3 : Nat → Bool := uD 1 KM (clD KD2 1) 1024 0
theorem kn9 : wl KD3 1 = [] := by rfl

theorem byAt_one (w : World) : ByAt (fun _ => True) (w.alloc (.cells #[.int .u8 1] 5)) (.slice (some ⟨w.heap.size, 0, none⟩) 1 1) 1 one1 :=
  .inr ⟨⟨w.heap.size, 0, none⟩, 1, rfl, Nat.le_refl _, fun _ => ⟨rfl, trivial⟩, fun i hi => ⟨by
    obtain rfl : i = 0 := by omega
    exact World.cell?_alloc_at (w := w) _ _ _ _ rfl, by unfold one1; omega, by unfold one1; omega⟩⟩
set_option maxRecDepth 100000 in
set_option maxHeartbeats 2000000 in
theorem known_any (w : World) : Calls Try.prog 10 #[] w (TrB w) := by
  have H1 := Lib.hid kn1
  go_enter Try.func10, Try.ntmps10
  go_wp2_with fail
  refine (new_any 1 w).mono ?_
  rintro e w1 ⟨g, b, m, t, rfl, lg, lb, lm, lt, hm1, hb1⟩
  rw [kn8] at hm1
  go_wp2_with fail
  refine (store_any 0 4 16909060 hm1 (by omega) (by omega) (by omega) (by omega) (by omega) (by omega)).mono ?_
  rintro e w2 ⟨rfl, hm2, hf2⟩
  rw [H1.out]
  have hm2 : Mem 57 w2 g b m t 1 K1 KF KD1 := hm2
  go_wp2_with fail
  refine (load_any 1 1 hm2 (by omega) (by omega) (by omega) (by omega)).mono ?_
  rintro e w3 ⟨rfl, rfl⟩
  rw [kn2]
  go_wp2_with fail
  refine (load_any 2 4 hm2 (by omega) (by omega) (by omega) (by omega)).mono ?_
  rintro e w3 ⟨rfl, rfl⟩
  rw [kn3]
  go_wp2_with fail
  refine (mark_any 0 hm2).mono ?_
  rintro e w3 ⟨rfl, hm3, hf3⟩
  have hm3 : Mem 57 w3 g b m t 1 K1 KM KD1 := hm3
  go_wp2_with fail
  have hm4 := hm3.alloc (.cells #[.int .u8 1] 5)
  refine (put_any 5 _ 1 one1 hm4 (byAt_one w3) (by omega) (by omega) (by omega)).mono ?_
  rintro e w4 ⟨rfl, hm5, hf5⟩
  have hm5 : Mem 57 w4 g b m t 1 K2 KM KD2 := hm5
  go_wp2_with fail
  refine (written_any hm5).mono ?_
  rintro e w5 ⟨v5, rfl, ho5, hm6, hf6⟩
  have hc5 := ho5
  rw [kn5] at hc5
  obtain ⟨q, cap, rfl, q0, q1⟩ := hc5.form (by decide)
  have hcell := hc5.cellAt 0 (by decide)
  have hcell : w5.cell? ⟨q, 0, none⟩ = some (.int .i64 0) := hcell
  have HN := Lib.hid (show (wl KD2 1).length = 1 from rfl)
  go_wp2_with fail
  refine (put_any (Q := fun _ => True) 1024 _ 0 one1 hm6 (.inl ⟨0, rfl, rfl⟩) (by omega) (by omega) (by omega)).mono ?_
  rintro e w6 ⟨rfl, hm7, hf7⟩
  rw [kn6]
  have hm7 : Mem 57 w6 g b m t 1 (uC 1 K2 1024 0 one1) KM KD3 := hm7
  have hcell6 : w6.cell? ⟨q, 0, none⟩ = some (.int .i64 0) := (World.cell?_of_block (hf7.block q q1 (by
    have z1 := hm5.hb.lt
    have z2 := hm5.hm.lt
    have z3 := hm5.ht.lt
    rintro (rfl | rfl | rfl) <;> omega))).trans hcell
  go_wp2_with fail
  refine (written_any hm7).mono ?_
  rintro e w7 ⟨v7, rfl, ho7, hm8, hf8⟩
  rw [kn9] at ho7
  have hB := below_own (below_own (below_own (below_own (Below.alloc (below_own (below_own hb1 lb lm lt hf2) lb lm lt hf3) (by have := hb1.size; have := hf2.size; have := hf3.size; omega) _) lb lm lt hf5) lb lm lt hf6) lb lm lt hf7) lb lm lt hf8
  rcases ho7.2 with ⟨rfl, _⟩ | ⟨q7, cap7, cur7, rfl, _⟩
  all_goals
    go_wp2
    go_ret
    exact ⟨rfl, hB⟩
end Go.Proofs.Ytfpddhpacfcfmaa
