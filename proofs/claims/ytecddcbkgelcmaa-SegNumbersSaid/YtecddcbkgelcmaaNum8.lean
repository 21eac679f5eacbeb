/-
  Chapter 8: the walk of the closed sentence SegNumbers.
-/
import Derived.Test.YtecddcbkgelcmaaSm8
namespace Go.Proofs.Ytecddcbkgelcmaa
open Go.RowKit
set_option linter.unusedVariables false
theorem three_at (w : World) (j : Nat) (hj : j < 3) : ∃ v : Int, W32 v ∧ (w.alloc (.cells #[.int .u32 0, .int .u32 16, .int .u32 18] 22)).cell? ⟨w.heap.size, j, none⟩ = some (.int .u32 v) := by
  have h := heap_alloc_last w (.cells #[.int .u32 0, .int .u32 16, .int .u32 18] 22)
  have : j = 0 ∨ j = 1 ∨ j = 2 := by omega
  rcases this with rfl | rfl | rfl
  all_goals exact ⟨_, ⟨by decide, by decide⟩, cell_of_row _ _ _ _ _ _ h⟩
theorem ten_at (w : World) (j : Nat) (hj : j < 10) : ∃ v : Int, W32 v ∧ (w.alloc (.cells #[.int .u32 0, .int .u32 2147482624, .int .u32 2147483647, .int .u32 2147483648, .int .u32 2684354559, .int .u32 2684354560, .int .u32 3221225471, .int .u32 3221225472, .int .u32 3221226496, .int .u32 4294967295] 22)).cell? ⟨w.heap.size, j, none⟩ = some (.int .u32 v) := by
  have h := heap_alloc_last w (.cells #[.int .u32 0, .int .u32 2147482624, .int .u32 2147483647, .int .u32 2147483648, .int .u32 2684354559, .int .u32 2684354560, .int .u32 3221225471, .int .u32 3221225472, .int .u32 3221226496, .int .u32 4294967295] 22)
  have : j = 0 ∨ j = 1 ∨ j = 2 ∨ j = 3 ∨ j = 4 ∨ j = 5 ∨ j = 6 ∨ j = 7 ∨ j = 8 ∨ j = 9 := by omega
  rcases this with rfl | rfl | rfl | rfl | rfl | rfl | rfl | rfl | rfl | rfl
  all_goals exact ⟨_, ⟨by decide, by decide⟩, cell_of_row _ _ _ _ _ _ h⟩
theorem w_sub (x : Int) : W32 (x % 4294967296) := w_mod _
set_option maxRecDepth 100000 in
set_option maxHeartbeats 4000000 in
theorem numbers_walk (w : World) : Calls Try.prog 3 #[] w (RetB (.bool true) w) := by
  go_enter Try.func3, Try.ntmps3
  go_wp2_with fail
  have Q := Lib.hid (three_at w)
  have b0 : Bl w (w.alloc (.cells #[.int .u32 0, .int .u32 16, .int .u32 18] 22)) := (Below.refl w.heap.size w).alloc (Nat.le_refl _) _
  generalize hX : w.heap.size = X at Q ⊢
  generalize w.alloc (.cells #[.int .u32 0, .int .u32 16, .int .u32 18] 22) = W0 at Q b0 ⊢
  go_loopw [10] (fun i wr => ∃ k : Nat, k ≤ 3 ∧ i = .int .i64 k ∧ Bl W0 wr) (fun i _ => 3 - (intOf i).toNat)
  case atStart => exact ⟨0, by omega, by go_num, Below.refl _ _⟩
  case round =>
    obtain ⟨k, hk, rfl, hb⟩ := hrel
    by_cases hlt : k < 3
    · have hlt' : (k : Int) < 3 := by omega
      obtain ⟨st, hst, cst⟩ := Q.out k hlt
      have cst' := hb.cell cst
      clear cst
      go_wp2_with fail
      refine (fresh_any wr).mono ?_
      rintro e w1 ⟨rfl, bb⟩
      have ok := St.Ok.of_fresh
      have z1 := bb.size
      go_wp2_with (with_reducible refine wpList_allocSt ?_)
      intro g w2 l2 h2 f2
      go_wp2_with ((with_reducible refine wpList_storeSt ?_ ?_ h2 ok ?_); rfl; rfl)
      intro w3 t3
      have hg : wr.heap.size ≤ g := by omega
      have g3 := (((Fr.of_below (S := New wr.heap.size) bb).trans (f2.new (fun _ x => x.elim))).trans (t3.fr.new (by rintro k rfl; exact hg)))
      have h3 := t3.at_
      clear t3 h2 f2 l2 z1 ok bb cst'
      go_wp2_with fail
      refine (write_any 12 st h3 hst).mono ?_
      rintro e w4 ⟨rfl, t4⟩
      have h4 := t4.at_
      have g4 := g3.trans (t4.fr.new (by rintro k rfl; exact hg))
      clear t4 h3 g3
      have c1 : w4.cell? ⟨g, 61, none⟩ = some (.int .u32 ((wrF freshF 12 st).H 3)) := h4.cH 3 (by decide)
      have c2 : w4.cell? ⟨g, 62, none⟩ = some (.int .u32 ((wrF freshF 12 st).L 3)) := h4.cL 3 (by decide)
      have c3 : w4.cell? ⟨g, 65, none⟩ = some (.int .u32 ((wrF freshF 12 st).H 5)) := h4.cH 5 (by decide)
      have c4 : w4.cell? ⟨g, 66, none⟩ = some (.int .u32 ((wrF freshF 12 st).L 5)) := h4.cL 5 (by decide)
      have f1 := h4.frozenAt 61
      have f2 := h4.frozenAt 62
      have f3 := h4.frozenAt 65
      have f4 := h4.frozenAt 66
      have h5 : StAt ((((w4.setCell ⟨g, 61, none⟩ (.int .u32 2147482624)).setCell ⟨g, 62, none⟩ (.int .u32 4101)).setCell ⟨g, 65, none⟩ (.int .u32 3221225472)).setCell ⟨g, 66, none⟩ (.int .u32 8199)) g (((((wrF freshF 12 st).setH 3 2147482624).setL 3 4101).setH 5 3221225472).setL 5 8199) :=
        (((h4.setH 3 (by decide) _ ⟨by decide, by decide⟩).setL 3 (by decide) 4101 ⟨by decide, by decide⟩).setH 5 (by decide) _ ⟨by decide, by decide⟩).setL 5 (by decide) 8199 ⟨by decide, by decide⟩
      have g5 : Fr (New wr.heap.size) wr ((((w4.setCell ⟨g, 61, none⟩ (.int .u32 2147482624)).setCell ⟨g, 62, none⟩ (.int .u32 4101)).setCell ⟨g, 65, none⟩ (.int .u32 3221225472)).setCell ⟨g, 66, none⟩ (.int .u32 8199)) :=
        (((g4.setCell (x := ⟨g, 61, none⟩) (.inl hg) _).setCell (x := ⟨g, 62, none⟩) (.inl hg) _).setCell (x := ⟨g, 65, none⟩) (.inl hg) _).setCell (x := ⟨g, 66, none⟩) (.inl hg) _
      go_wp2_with fail
      have b5 : Bl W0 ((((w4.setCell ⟨g, 61, none⟩ (.int .u32 2147482624)).setCell ⟨g, 62, none⟩ (.int .u32 4101)).setCell ⟨g, 65, none⟩ (.int .u32 3221225472)).setCell ⟨g, 66, none⟩ (.int .u32 8199)) := hb.step g5.newB
      have eS : ((((w4.setCell ⟨g, 61, none⟩ (.int .u32 2147482624)).setCell ⟨g, 62, none⟩ (.int .u32 4101)).setCell ⟨g, 65, none⟩ (.int .u32 3221225472)).setCell ⟨g, 66, none⟩ (.int .u32 8199)).heap.size = w4.heap.size := by simp
      clear c1 c2 c3 c4 f1 f2 f3 f4 g4 h4 g5 hb hg
      generalize (((((wrF freshF 12 st).setH 3 2147482624).setL 3 4101).setH 5 3221225472).setL 5 8199) = s at h5
      generalize ((((w4.setCell ⟨g, 61, none⟩ (.int .u32 2147482624)).setCell ⟨g, 62, none⟩ (.int .u32 4101)).setCell ⟨g, 65, none⟩ (.int .u32 3221225472)).setCell ⟨g, 66, none⟩ (.int .u32 8199)) = W5 at h5 b5 eS ⊢
      have Q2 := ten_at W5
      rw [eS] at Q2
      have Q2 := Lib.hid Q2
      have b6 : Bl W5 (W5.alloc (.cells #[.int .u32 0, .int .u32 2147482624, .int .u32 2147483647, .int .u32 2147483648, .int .u32 2684354559, .int .u32 2684354560, .int .u32 3221225471, .int .u32 3221225472, .int .u32 3221226496, .int .u32 4294967295] 22)) := (Below.refl W5.heap.size W5).alloc (Nat.le_refl _) _
      have h6 := h5.below b6
      have b7 := b5.step b6
      clear b5 b6 h5
      clear eS
      generalize w4.heap.size = Y at Q2 ⊢
      generalize W5.alloc (.cells #[.int .u32 0, .int .u32 2147482624, .int .u32 2147483647, .int .u32 2147483648, .int .u32 2684354559, .int .u32 2684354560, .int .u32 3221225471, .int .u32 3221225472, .int .u32 3221226496, .int .u32 4294967295] 22) = W6 at Q2 h6 b7 ⊢
      go_loopw [25] (fun i wq => ∃ k2 : Nat, k2 ≤ 10 ∧ i = .int .i64 k2 ∧ Bl W6 wq) (fun i _ => 10 - (intOf i).toNat)
      case atStart => exact ⟨0, by omega, by go_num, Below.refl _ _⟩
      case round =>
        obtain ⟨k2, hk2, rfl, hb2⟩ := hrel
        by_cases hlt2 : k2 < 10
        · have hlt2' : (k2 : Int) < 10 := by omega
          obtain ⟨va, hva, cva⟩ := Q2.out k2 hlt2
          have cva' := hb2.cell cva
          obtain ⟨va0, va1⟩ := hva
          clear cva
          go_wp2_with fail
          clear cva'
          go_loopw [6] (fun i wq => ∃ d : Nat, d ≤ 5 ∧ i = .int .u32 d ∧ Bl W6 wq) (fun i _ => 5 - (intOf i).toNat)
          case atStart => exact ⟨0, by omega, by go_num, hb2⟩
          case round =>
            clear hb2
            obtain ⟨d, hd, rfl, hb3⟩ := hrel
            by_cases hlt3 : d < 5
            · have hlt3' : (d : Int) < 5 := by omega
              go_wp2_with fail
              go_loopw [7] (fun i wq => ∃ m : Int, -1 ≤ m ∧ m ≤ 6 ∧ i = .int .i64 m ∧ Bl W6 wq) (fun i _ => (6 - intOf i).toNat)
              case atStart => exact ⟨-1, by omega, by omega, by go_num, hb3⟩
              case round =>
                clear hb3
                obtain ⟨m, m0, m1, rfl, hb4⟩ := hrel
                by_cases hlt4 : m < 6
                · go_wp2_with fail
                  refine (same_any _ m (h6.below hb4) (w_mod _)).mono ?_
                  rintro e w7 ⟨rfl, b8⟩
                  have hb5 := hb4.step b8
                  go_wp2_with fail
                  refine (same_any _ m (h6.below hb5) (w_mod _)).mono ?_
                  rintro e w8 ⟨rfl, b9⟩
                  go_wp2_with fail
                  go_roundw
                  case rel => exact ⟨m + 1, by omega, by omega, by go_num, hb5.step b9⟩
                  case measure => simp [intOf]; omega
                · have e9 : decide (m < 6) = false := by simp; omega
                  go_wp2_with fail
                  go_roundw
                  case rel => exact ⟨d + 1, by omega, by go_num, hb4⟩
                  case measure => simp [intOf]; omega
            · have e8 : decide ((d : Int) < 5) = false := by simp; omega
              go_wp2_with fail
              go_roundw
              case rel => exact ⟨k2 + 1, by omega, by go_num, hb3⟩
              case measure => simp [intOf]; omega
        · have e7 : decide ((k2 : Int) < 10) = false := by simp; omega
          go_wp2_with fail
          go_roundw
          case rel => exact ⟨k + 1, by omega, by go_num, b7.step hb2⟩
          case measure => simp [intOf]; omega
    · have e6 : decide ((k : Int) < 3) = false := by simp; omega
      go_wp2_with fail
      refine (known_any _).mono ?_
      rintro e w6 ⟨rfl, b6⟩
      go_wp2_with fail
      go_ret
      exact ⟨rfl, (b0.step hb).step b6⟩
end Go.Proofs.Ytecddcbkgelcmaa
