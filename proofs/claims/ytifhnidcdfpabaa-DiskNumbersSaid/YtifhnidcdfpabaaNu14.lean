/-
  Chapter 14: the walk of DiskNumbers: it returns true, and nothing that was there has turned.
-/
import Derived.Test.YtifhnidcdfpabaaNx14
import Derived.Deep.RegionHeld3
import Derived.Deep.DeepCutAuto
import Derived.Deep.CutBlock
namespace Go.Proofs.Ytifhnidcdfpabaa
open Go.RowKit
set_option linter.unusedVariables false
set_option linter.unusedSimpArgs false
/-- the numbers of kinds and of words that calls take in turn -/
def kdL : List Int := [5, 0, 1, 0, 4, 3, 2]
def kkL : List Int := [0, 1, 2, 3]
theorem kk_rng (j : Nat) (h : j < 4) : 0 ≤ kkL.getD j 0 ∧ kkL.getD j 0 ≤ 3 := by
  have h2 : ∀ j, j < 4 → 0 ≤ kkL.getD j 0 ∧ kkL.getD j 0 ≤ 3 := by decide
  exact h2 _ h
def iL : List Int := [105, 109, 97, 103, 101]
def iF : Nat → Int := fun i => iL.getD i 0
theorem iF_bd (i : Nat) : 0 ≤ iF i ∧ iF i ≤ 255 := by
  have h : ∀ j : Nat, j < 5 → 0 ≤ iF j ∧ iF j ≤ 255 := by decide
  by_cases hi : i < 5
  · exact h i hi
  · unfold iF; rw [List.getD_eq_getElem?_getD, List.getElem?_eq_none (by show 5 ≤ i; omega)]; exact ⟨by decide, by decide⟩
theorem ok_lit (kd kk y by_ bb : Int) (h : -9223372036854775808 ≤ kk ∧ kk ≤ 9223372036854775807 ∧ 0 ≤ y ∧ y < 4294967296 ∧ -9223372036854775808 ≤ by_ ∧ by_ ≤ 9223372036854775807 ∧ 0 ≤ bb ∧ bb < 256) : OkE (vec5 (.int .i64 kd) (.int .i64 kk) (.int .u32 y) (.int .i64 by_) (.int .u8 bb)) := ⟨kd, kk, y, by_, bb, rfl, h⟩
set_option maxRecDepth 100000 in
set_option maxHeartbeats 8000000 in
theorem numbers_walk (w : World) : Calls Try.prog 3 #[] w (RetB (.bool true) w) := by
  go_enter Try.func3, Try.ntmps3
  go_wp2_with fail
  go_loopw [1, 2] (fun v i wr => ∃ (k : Nat) (EL : Nat → Nat → Value), k ≤ 78 ∧ i = .int .i64 k ∧ wr.ownsRow w.heap.size 26 5 v k (cells5 EL k) ∧ (∀ i, i < k → OkE (EL i)) ∧ Below w.heap.size w wr) (fun _ i _ => 78 - (intOf i).toNat)
  case atStart => exact ⟨0, fun _ _ => .bool false, by omega, rfl, World.ownsRow_nil _ _ _ _, fun i hi => absurd hi (by omega), Below.refl _ _⟩
  case round =>
    obtain ⟨k, EL, hk, rfl, hown, hE, hB⟩ := hrel
    by_cases hlt : k < 78
    · obtain ⟨j1, hj1, e1⟩ : ∃ j1 : Nat, j1 = k % 7 ∧ (k : Int) % 7 = (j1 : Int) := ⟨k % 7, rfl, by omega⟩
      obtain ⟨j2, hj2, e2⟩ : ∃ j2 : Nat, j2 = k % 4 ∧ (k : Int) % 4 = (j2 : Int) := ⟨k % 4, rfl, by omega⟩
      have l1 : j1 < 7 := by omega
      have l2 : j2 < 4 := by omega
      have l3 : (j1 : Int) < 7 := by omega
      have l4 : (j2 : Int) < 4 := by omega
      obtain ⟨kd, hkd⟩ : ∃ kd, kdL.getD j1 0 = kd := ⟨_, rfl⟩
      obtain ⟨kk, hkk⟩ : ∃ kk, kkL.getD j2 0 = kk := ⟨_, rfl⟩
      have kb := kk_rng j2 l2
      rw [hkk] at kb
      have HN : Hid (∀ i, i < k + 1 → OkE ((fun i => if i = k then vec5 (.int .i64 kd) (.int .i64 kk) (.int .u32 ((k : Int) * 41 % 2110)) (.int .i64 ((k : Int) % 41)) (.int .u8 (k : Int)) else EL i) i)) :=
        Lib.hid (ok_snoc hE ⟨kd, kk, _, _, _, rfl, by omega, by omega, by omega, by omega, by omega, by omega, by omega, by omega⟩)
      have hA : ∀ W : World, (W.alloc (.cells #[.int .i64 5, .int .i64 0, .int .i64 1, .int .i64 0, .int .i64 4, .int .i64 3, .int .i64 2] 3)).cell? ⟨W.heap.size, j1, none⟩ = some (.int .i64 kd) := fun W => by
        rw [← hkd]; exact lit_at .i64 W kdL _ _ rfl j1 l1
      have hC : ∀ W : World, (W.alloc (.cells #[.int .i64 0, .int .i64 1, .int .i64 2, .int .i64 3] 3)).cell? ⟨W.heap.size, j2, none⟩ = some (.int .i64 kk) := fun W => by
        rw [← hkk]; exact lit_at .i64 W kkL _ _ rfl j2 l2
      have t1 : (k : Int).tmod 7 = (j1 : Int) := by rw [Int.tmod_eq_emod_of_nonneg (by omega)]; exact e1
      have t2 : (k : Int).tmod 4 = (j2 : Int) := by rw [Int.tmod_eq_emod_of_nonneg (by omega)]; exact e2
      have m1 : IntKind.i64.wrap ((k : Int) * 41) = (k : Int) * 41 := by rw [IntKind.wrap_i64]; omega
      have m2 : ((k : Int) * 41).tmod 2110 = (k : Int) * 41 % 2110 := Int.tmod_eq_emod_of_nonneg (by omega)
      have m3 : IntKind.i64.wrap ((k : Int) * 41 % 2110) = (k : Int) * 41 % 2110 := by rw [IntKind.wrap_i64]; omega
      have m4 : IntKind.u32.wrap ((k : Int) * 41 % 2110) = (k : Int) * 41 % 2110 := by rw [IntKind.wrap_u32']; omega
      have m6 : (k : Int).tmod 41 = (k : Int) % 41 := Int.tmod_eq_emod_of_nonneg (by omega)
      have m7 : IntKind.i64.wrap ((k : Int) % 41) = (k : Int) % 41 := by rw [IntKind.wrap_i64]; omega
      have m8 : IntKind.u8.wrap (k : Int) = (k : Int) := by rw [IntKind.wrap_u8']; omega
      have t7 : IntKind.i64.wrap (j1 : Int) = (j1 : Int) := by rw [IntKind.wrap_i64]; omega
      have t8 : IntKind.i64.wrap (j2 : Int) = (j2 : Int) := by rw [IntKind.wrap_i64]; omega
      clear hj1 hj2 e1 e2 hkd hkk kb hE
      have a1 : (wr.drew.alloc (.cells #[.int .i64 5, .int .i64 0, .int .i64 1, .int .i64 0, .int .i64 4, .int .i64 3, .int .i64 2] 3)).cell? ⟨wr.heap.size, j1, none⟩ = some (.int .i64 kd) := hA wr.drew
      have a2 : ((wr.drew.alloc (.cells #[.int .i64 5, .int .i64 0, .int .i64 1, .int .i64 0, .int .i64 4, .int .i64 3, .int .i64 2] 3)).alloc (.cells #[.int .i64 0, .int .i64 1, .int .i64 2, .int .i64 3] 3)).cell? ⟨wr.heap.size, j1, none⟩ = some (.int .i64 kd) := elder_at _ _ a1
      have a3 : ((wr.drew.alloc (.cells #[.int .i64 5, .int .i64 0, .int .i64 1, .int .i64 0, .int .i64 4, .int .i64 3, .int .i64 2] 3)).alloc (.cells #[.int .i64 0, .int .i64 1, .int .i64 2, .int .i64 3] 3)).cell? ⟨wr.heap.size + 1, j2, none⟩ = some (.int .i64 kk) := by
        have := hC (wr.drew.alloc (.cells #[.int .i64 5, .int .i64 0, .int .i64 1, .int .i64 0, .int .i64 4, .int .i64 3, .int .i64 2] 3))
        rwa [show (wr.drew.alloc (.cells #[.int .i64 5, .int .i64 0, .int .i64 1, .int .i64 0, .int .i64 4, .int .i64 3, .int .i64 2] 3)).heap.size = wr.heap.size + 1 from Array.size_push ..] at this
      have b1 : (wr.drew.alloc (.cells #[.int .i64 0, .int .i64 1, .int .i64 2, .int .i64 3] 3)).cell? ⟨wr.heap.size, j2, none⟩ = some (.int .i64 kk) := hC wr.drew
      have b2 : ((wr.drew.alloc (.cells #[.int .i64 0, .int .i64 1, .int .i64 2, .int .i64 3] 3)).alloc (.cells #[.int .i64 5, .int .i64 0, .int .i64 1, .int .i64 0, .int .i64 4, .int .i64 3, .int .i64 2] 3)).cell? ⟨wr.heap.size, j2, none⟩ = some (.int .i64 kk) := elder_at _ _ b1
      have b3 : ((wr.drew.alloc (.cells #[.int .i64 0, .int .i64 1, .int .i64 2, .int .i64 3] 3)).alloc (.cells #[.int .i64 5, .int .i64 0, .int .i64 1, .int .i64 0, .int .i64 4, .int .i64 3, .int .i64 2] 3)).cell? ⟨wr.heap.size + 1, j1, none⟩ = some (.int .i64 kd) := by
        have := hA (wr.drew.alloc (.cells #[.int .i64 0, .int .i64 1, .int .i64 2, .int .i64 3] 3))
        rwa [show (wr.drew.alloc (.cells #[.int .i64 0, .int .i64 1, .int .i64 2, .int .i64 3] 3)).heap.size = wr.heap.size + 1 from Array.size_push ..] at this
      have x1 : (wr.drew.alloc (.cells #[.int .i64 5, .int .i64 0, .int .i64 1, .int .i64 0, .int .i64 4, .int .i64 3, .int .i64 2] 3)).heap.size = wr.heap.size + 1 := Array.size_push ..
      have x2 : ((wr.drew.alloc (.cells #[.int .i64 5, .int .i64 0, .int .i64 1, .int .i64 0, .int .i64 4, .int .i64 3, .int .i64 2] 3)).alloc (.cells #[.int .i64 0, .int .i64 1, .int .i64 2, .int .i64 3] 3)).heap.size = wr.heap.size + 1 + 1 := by rw [show ((wr.drew.alloc (.cells #[.int .i64 5, .int .i64 0, .int .i64 1, .int .i64 0, .int .i64 4, .int .i64 3, .int .i64 2] 3)).alloc (.cells #[.int .i64 0, .int .i64 1, .int .i64 2, .int .i64 3] 3)).heap.size = (wr.drew.alloc (.cells #[.int .i64 5, .int .i64 0, .int .i64 1, .int .i64 0, .int .i64 4, .int .i64 3, .int .i64 2] 3)).heap.size + 1 from Array.size_push .., x1]
      have y1 : (wr.drew.alloc (.cells #[.int .i64 0, .int .i64 1, .int .i64 2, .int .i64 3] 3)).heap.size = wr.heap.size + 1 := Array.size_push ..
      have y2 : ((wr.drew.alloc (.cells #[.int .i64 0, .int .i64 1, .int .i64 2, .int .i64 3] 3)).alloc (.cells #[.int .i64 5, .int .i64 0, .int .i64 1, .int .i64 0, .int .i64 4, .int .i64 3, .int .i64 2] 3)).heap.size = wr.heap.size + 1 + 1 := by rw [show ((wr.drew.alloc (.cells #[.int .i64 0, .int .i64 1, .int .i64 2, .int .i64 3] 3)).alloc (.cells #[.int .i64 5, .int .i64 0, .int .i64 1, .int .i64 0, .int .i64 4, .int .i64 3, .int .i64 2] 3)).heap.size = (wr.drew.alloc (.cells #[.int .i64 0, .int .i64 1, .int .i64 2, .int .i64 3] 3)).heap.size + 1 from Array.size_push .., y1]
      have hb1 : Below wr.heap.size wr ((wr.drew.alloc (.cells #[.int .i64 5, .int .i64 0, .int .i64 1, .int .i64 0, .int .i64 4, .int .i64 3, .int .i64 2] 3)).alloc (.cells #[.int .i64 0, .int .i64 1, .int .i64 2, .int .i64 3] 3)) := (((Below.refl _ wr).drew).alloc (Nat.le_refl _) _).alloc (by simp) _
      have hb2 : Below wr.heap.size wr ((wr.drew.alloc (.cells #[.int .i64 0, .int .i64 1, .int .i64 2, .int .i64 3] 3)).alloc (.cells #[.int .i64 5, .int .i64 0, .int .i64 1, .int .i64 0, .int .i64 4, .int .i64 3, .int .i64 2] 3)) := (((Below.refl _ wr).drew).alloc (Nat.le_refl _) _).alloc (by simp) _
      obtain ⟨va, wa, ra, oa, ba⟩ := app_ask (X := wr.heap.size + 1 + 1) kd kk ((k : Int) * 41 % 2110) ((k : Int) % 41) (k : Int) (by omega) hown hb1 (by simp) hB
      obtain ⟨vb, wb, rb, ob, bb⟩ := app_ask (X := wr.heap.size + 1 + 1) kd kk ((k : Int) * 41 % 2110) ((k : Int) % 41) (k : Int) (by omega) hown hb2 (by simp) hB
      have RA := Lib.hid ra
      have RB := Lib.hid rb
      clear ra rb hA hC hb1 hb2 hown
      go_wp2_with fail
      refine wp_region_T (S := fun W : World => True) 22 (by kernel_rfl) ?_
      refine wpT_take (i := 0) (v := ?_) rfl (by kernel_rfl) (by kernel_rfl) (by kernel_rfl) (by kernel_rfl) (fun _ _ _ h => h) trivial (Or.inl ⟨by rfl, fun w hSw => ?_⟩) ?_
      rotate_left
      · go_simp
        try with_reducible rfl
      simp only [Act.put, List.setIfInBounds_toArray, List.set_cons_zero, List.set_cons_succ]
      refine wpT_take (i := 2) (v := ?_) rfl (by kernel_rfl) (by kernel_rfl) (by kernel_rfl) (by kernel_rfl) (fun _ _ _ h => h) trivial (Or.inl ⟨by rfl, fun w hSw => ?_⟩) ?_
      rotate_left
      · go_simp
        try with_reducible rfl
      simp only [Act.put, List.setIfInBounds_toArray, List.set_cons_zero, List.set_cons_succ]
      refine wpT_take (i := 3) (v := ?_) rfl (by kernel_rfl) (by kernel_rfl) (by kernel_rfl) (by kernel_rfl) (fun _ _ _ h => h) trivial (Or.inl ⟨by rfl, fun w hSw => ?_⟩) ?_
      rotate_left
      · go_simp
        try with_reducible rfl
      simp only [Act.put, List.setIfInBounds_toArray, List.set_cons_zero, List.set_cons_succ]
      refine wpT_take (i := 7) (v := ?_) rfl (by kernel_rfl) (by kernel_rfl) (by kernel_rfl) (by kernel_rfl) (fun _ _ _ h => h) trivial (Or.inl ⟨by rfl, fun w hSw => ?_⟩) ?_
      rotate_left
      · go_simp
        try with_reducible rfl
      simp only [Act.put, List.setIfInBounds_toArray, List.set_cons_zero, List.set_cons_succ]
      refine wpT_take (i := 8) (v := ?_) rfl (by kernel_rfl) (by kernel_rfl) (by kernel_rfl) (by kernel_rfl) (fun _ _ _ h => h) trivial (Or.inl ⟨by rfl, fun w hSw => ?_⟩) ?_
      rotate_left
      · go_simp
        try with_reducible rfl
      simp only [Act.put, List.setIfInBounds_toArray, List.set_cons_zero, List.set_cons_succ]
      refine wpT_take (i := 11) (v := ?_) rfl (by kernel_rfl) (by kernel_rfl) (by kernel_rfl) (by kernel_rfl) (fun _ _ _ h => h) trivial (Or.inl ⟨by rfl, fun w hSw => ?_⟩) ?_
      rotate_left
      · go_simp
        try with_reducible rfl
      simp only [Act.put, List.setIfInBounds_toArray, List.set_cons_zero, List.set_cons_succ]
      refine wpT_take (i := 12) (v := ?_) rfl (by kernel_rfl) (by kernel_rfl) (by kernel_rfl) (by kernel_rfl) (fun _ _ _ h => h) trivial (Or.inl ⟨by rfl, fun w hSw => ?_⟩) ?_
      rotate_left
      · go_simp
        try with_reducible rfl
      simp only [Act.put, List.setIfInBounds_toArray, List.set_cons_zero, List.set_cons_succ]
      refine wpT_take (i := 13) (v := ?_) rfl (by kernel_rfl) (by kernel_rfl) (by kernel_rfl) (by kernel_rfl) (fun _ _ _ h => h) trivial (Or.inl ⟨by rfl, fun w hSw => ?_⟩) ?_
      rotate_left
      · go_simp
        try with_reducible rfl
      simp only [Act.put, List.setIfInBounds_toArray, List.set_cons_zero, List.set_cons_succ]
      refine wpT_take (i := 14) (v := ?_) rfl (by kernel_rfl) (by kernel_rfl) (by kernel_rfl) (by kernel_rfl) (fun _ _ _ h => h) trivial (Or.inl ⟨by rfl, fun w hSw => ?_⟩) ?_
      rotate_left
      · go_simp
        try with_reducible rfl
      simp only [Act.put, List.setIfInBounds_toArray, List.set_cons_zero, List.set_cons_succ]
      refine wpT_take (i := 15) (v := ?_) rfl (by kernel_rfl) (by kernel_rfl) (by kernel_rfl) (by kernel_rfl) (fun _ _ _ h => h) trivial (Or.inl ⟨by rfl, fun w hSw => ?_⟩) ?_
      rotate_left
      · go_simp
        try with_reducible rfl
      simp only [Act.put, List.setIfInBounds_toArray, List.set_cons_zero, List.set_cons_succ]
      refine wpT_take (i := 16) (v := ?_) rfl (by kernel_rfl) (by kernel_rfl) (by kernel_rfl) (by kernel_rfl) (fun _ _ _ h => h) trivial (Or.inl ⟨by rfl, fun w hSw => ?_⟩) ?_
      rotate_left
      · go_simp
        try with_reducible rfl
      simp only [Act.put, List.setIfInBounds_toArray, List.set_cons_zero, List.set_cons_succ]
      refine wpT_take (i := 17) (v := ?_) rfl (by kernel_rfl) (by kernel_rfl) (by kernel_rfl) (by kernel_rfl) (fun _ _ _ h => h) trivial (Or.inl ⟨by rfl, fun w hSw => ?_⟩) ?_
      rotate_left
      · go_simp
        try with_reducible rfl
      simp only [Act.put, List.setIfInBounds_toArray, List.set_cons_zero, List.set_cons_succ]
      refine wpT_take (i := 18) (v := ?_) rfl (by kernel_rfl) (by kernel_rfl) (by kernel_rfl) (by kernel_rfl) (fun _ _ _ h => h) trivial (Or.inl ⟨by rfl, fun w hSw => ?_⟩) ?_
      rotate_left
      · go_simp
        try with_reducible rfl
      simp only [Act.put, List.setIfInBounds_toArray, List.set_cons_zero, List.set_cons_succ]
      refine wpT_two (i := 1) (j := 6) (by kernel_rfl) rfl rfl (fun K hK => ?_) (fun K hK => ?_)
      · go_simp
        refine hK.out _ (wr.drew.alloc (.cells #[.int .i64 5, .int .i64 0, .int .i64 1, .int .i64 0, .int .i64 4, .int .i64 3, .int .i64 2] 3)) trivial ?_
        clear hK K
        generalize wr.drew.alloc (.cells #[.int .i64 5, .int .i64 0, .int .i64 1, .int .i64 0, .int .i64 4, .int .i64 3, .int .i64 2] 3) = W1 at a1 a2 a3 RA x1 x2 ⊢
        refine wpT_take (i := 4) (v := ?_) rfl (by kernel_rfl) (by kernel_rfl) (by kernel_rfl) (by kernel_rfl) (fun _ _ _ h => h) trivial (Or.inl ⟨by rfl, fun w hSw => ?_⟩) ?_
        rotate_left
        · go_simp
          try with_reducible rfl
        simp only [Act.put, List.setIfInBounds_toArray, List.set_cons_zero, List.set_cons_succ]
        refine wpT_two (i := 5) (j := 6) (by kernel_rfl) rfl rfl (fun K hK => ?_) (fun K hK => ?_)
        · go_simp
          refine hK.out _ (W1) trivial ?_
          clear hK K
          refine wpT_one (i := 6) (by kernel_rfl) rfl (fun K hK => ?_)
          go_simp
          refine hK.out _ (W1.alloc (.cells #[.int .i64 0, .int .i64 1, .int .i64 2, .int .i64 3] 3)) trivial ?_
          clear hK K
          generalize W1.alloc (.cells #[.int .i64 0, .int .i64 1, .int .i64 2, .int .i64 3] 3) = W2 at a2 a3 RA x2 ⊢
          refine wpT_take (i := 9) (v := ?_) rfl (by kernel_rfl) (by kernel_rfl) (by kernel_rfl) (by kernel_rfl) (fun _ _ _ h => h) trivial (Or.inl ⟨by rfl, fun w hSw => ?_⟩) ?_
          rotate_left
          · go_simp
            try with_reducible rfl
          simp only [Act.put, List.setIfInBounds_toArray, List.set_cons_zero, List.set_cons_succ]
          refine wpT_one (i := 10) (by kernel_rfl) rfl (fun K hK => ?_)
          go_simp
          refine hK.out _ (W2) trivial ?_
          clear hK K
          refine wpT_take (i := 19) (v := ?_) rfl (by kernel_rfl) (by kernel_rfl) (by kernel_rfl) (by kernel_rfl) (fun _ _ _ h => h) trivial (Or.inl ⟨by rfl, fun w hSw => ?_⟩) ?_
          rotate_left
          · go_simp
            try with_reducible rfl
          simp only [Act.put, List.setIfInBounds_toArray, List.set_cons_zero, List.set_cons_succ]
          refine wpT_one (i := 20) (by kernel_rfl) rfl (fun K hK => ?_)
          go_simp
          refine hK.out _ ((W2).alloc (.cells #[.int .i64 kd, .int .i64 kk, .int .u32 ((k : Int) * 41 % 2110), .int .i64 ((k : Int) % 41), .int .u8 (k : Int)] 26)) trivial ?_
          clear hK K
          refine wpT_one (i := 21) (by kernel_rfl) rfl (fun K hK => ?_)
          refine step_append_go rfl (.tmp 11) (.tmp 31) 22 22 rfl _ _ rfl rfl RA.out ?_
          simp only [Act.put, List.setIfInBounds_toArray, List.set_cons_zero, List.set_cons_succ]
          refine hK.out _ _ trivial ?_
          clear hK K
          refine wpT_last (by kernel_rfl) rfl (by kernel_rfl) (fun K hK => ?_)
          go_simp
          refine hK.out _ _ ?_
          clear hK K
          go_wp2_with fail
          go_roundw
          case rel => exact ⟨k + 1, _, by omega, by go_num, oa, HN.out, ba⟩
          case measure => simp [intOf]; omega
        · go_simp
          refine hK.out _ (W1.alloc (.cells #[.int .i64 0, .int .i64 1, .int .i64 2, .int .i64 3] 3)) trivial ?_
          clear hK K
          generalize W1.alloc (.cells #[.int .i64 0, .int .i64 1, .int .i64 2, .int .i64 3] 3) = W2 at a2 a3 RA x2 ⊢
          refine wpT_take (i := 9) (v := ?_) rfl (by kernel_rfl) (by kernel_rfl) (by kernel_rfl) (by kernel_rfl) (fun _ _ _ h => h) trivial (Or.inl ⟨by rfl, fun w hSw => ?_⟩) ?_
          rotate_left
          · go_simp
            try with_reducible rfl
          simp only [Act.put, List.setIfInBounds_toArray, List.set_cons_zero, List.set_cons_succ]
          refine wpT_two (i := 5) (j := 10) (by kernel_rfl) rfl rfl (fun K hK => ?_) (fun K hK => ?_)
          · go_simp
            refine hK.out _ (W2) trivial ?_
            clear hK K
            refine wpT_one (i := 10) (by kernel_rfl) rfl (fun K hK => ?_)
            go_simp
            refine hK.out _ (W2) trivial ?_
            clear hK K
            refine wpT_take (i := 19) (v := ?_) rfl (by kernel_rfl) (by kernel_rfl) (by kernel_rfl) (by kernel_rfl) (fun _ _ _ h => h) trivial (Or.inl ⟨by rfl, fun w hSw => ?_⟩) ?_
            rotate_left
            · go_simp
              try with_reducible rfl
            simp only [Act.put, List.setIfInBounds_toArray, List.set_cons_zero, List.set_cons_succ]
            refine wpT_one (i := 20) (by kernel_rfl) rfl (fun K hK => ?_)
            go_simp
            refine hK.out _ ((W2).alloc (.cells #[.int .i64 kd, .int .i64 kk, .int .u32 ((k : Int) * 41 % 2110), .int .i64 ((k : Int) % 41), .int .u8 (k : Int)] 26)) trivial ?_
            clear hK K
            refine wpT_one (i := 21) (by kernel_rfl) rfl (fun K hK => ?_)
            refine step_append_go rfl (.tmp 11) (.tmp 31) 22 22 rfl _ _ rfl rfl RA.out ?_
            simp only [Act.put, List.setIfInBounds_toArray, List.set_cons_zero, List.set_cons_succ]
            refine hK.out _ _ trivial ?_
            clear hK K
            refine wpT_last (by kernel_rfl) rfl (by kernel_rfl) (fun K hK => ?_)
            go_simp
            refine hK.out _ _ ?_
            clear hK K
            go_wp2_with fail
            go_roundw
            case rel => exact ⟨k + 1, _, by omega, by go_num, oa, HN.out, ba⟩
            case measure => simp [intOf]; omega
          · go_simp
            refine hK.out _ (W2) trivial ?_
            clear hK K
            refine wpT_one (i := 5) (by kernel_rfl) rfl (fun K hK => ?_)
            go_simp
            refine hK.out _ (W2) trivial ?_
            clear hK K
            refine wpT_take (i := 19) (v := ?_) rfl (by kernel_rfl) (by kernel_rfl) (by kernel_rfl) (by kernel_rfl) (fun _ _ _ h => h) trivial (Or.inl ⟨by rfl, fun w hSw => ?_⟩) ?_
            rotate_left
            · go_simp
              try with_reducible rfl
            simp only [Act.put, List.setIfInBounds_toArray, List.set_cons_zero, List.set_cons_succ]
            refine wpT_one (i := 20) (by kernel_rfl) rfl (fun K hK => ?_)
            go_simp
            refine hK.out _ ((W2).alloc (.cells #[.int .i64 kd, .int .i64 kk, .int .u32 ((k : Int) * 41 % 2110), .int .i64 ((k : Int) % 41), .int .u8 (k : Int)] 26)) trivial ?_
            clear hK K
            refine wpT_one (i := 21) (by kernel_rfl) rfl (fun K hK => ?_)
            refine step_append_go rfl (.tmp 11) (.tmp 31) 22 22 rfl _ _ rfl rfl RA.out ?_
            simp only [Act.put, List.setIfInBounds_toArray, List.set_cons_zero, List.set_cons_succ]
            refine hK.out _ _ trivial ?_
            clear hK K
            refine wpT_last (by kernel_rfl) rfl (by kernel_rfl) (fun K hK => ?_)
            go_simp
            refine hK.out _ _ ?_
            clear hK K
            go_wp2_with fail
            go_roundw
            case rel => exact ⟨k + 1, _, by omega, by go_num, oa, HN.out, ba⟩
            case measure => simp [intOf]; omega
      · go_simp
        refine hK.out _ (wr.drew.alloc (.cells #[.int .i64 0, .int .i64 1, .int .i64 2, .int .i64 3] 3)) trivial ?_
        clear hK K
        generalize wr.drew.alloc (.cells #[.int .i64 0, .int .i64 1, .int .i64 2, .int .i64 3] 3) = W1 at b1 b2 b3 RB y1 y2 ⊢
        refine wpT_take (i := 9) (v := ?_) rfl (by kernel_rfl) (by kernel_rfl) (by kernel_rfl) (by kernel_rfl) (fun _ _ _ h => h) trivial (Or.inl ⟨by rfl, fun w hSw => ?_⟩) ?_
        rotate_left
        · go_simp
          try with_reducible rfl
        simp only [Act.put, List.setIfInBounds_toArray, List.set_cons_zero, List.set_cons_succ]
        refine wpT_two (i := 1) (j := 10) (by kernel_rfl) rfl rfl (fun K hK => ?_) (fun K hK => ?_)
        · go_simp
          refine hK.out _ (W1.alloc (.cells #[.int .i64 5, .int .i64 0, .int .i64 1, .int .i64 0, .int .i64 4, .int .i64 3, .int .i64 2] 3)) trivial ?_
          clear hK K
          generalize W1.alloc (.cells #[.int .i64 5, .int .i64 0, .int .i64 1, .int .i64 0, .int .i64 4, .int .i64 3, .int .i64 2] 3) = W2 at b2 b3 RB y2 ⊢
          refine wpT_take (i := 4) (v := ?_) rfl (by kernel_rfl) (by kernel_rfl) (by kernel_rfl) (by kernel_rfl) (fun _ _ _ h => h) trivial (Or.inl ⟨by rfl, fun w hSw => ?_⟩) ?_
          rotate_left
          · go_simp
            try with_reducible rfl
          simp only [Act.put, List.setIfInBounds_toArray, List.set_cons_zero, List.set_cons_succ]
          refine wpT_two (i := 5) (j := 10) (by kernel_rfl) rfl rfl (fun K hK => ?_) (fun K hK => ?_)
          · go_simp
            refine hK.out _ (W2) trivial ?_
            clear hK K
            refine wpT_one (i := 10) (by kernel_rfl) rfl (fun K hK => ?_)
            go_simp
            refine hK.out _ (W2) trivial ?_
            clear hK K
            refine wpT_take (i := 19) (v := ?_) rfl (by kernel_rfl) (by kernel_rfl) (by kernel_rfl) (by kernel_rfl) (fun _ _ _ h => h) trivial (Or.inl ⟨by rfl, fun w hSw => ?_⟩) ?_
            rotate_left
            · go_simp
              try with_reducible rfl
            simp only [Act.put, List.setIfInBounds_toArray, List.set_cons_zero, List.set_cons_succ]
            refine wpT_one (i := 20) (by kernel_rfl) rfl (fun K hK => ?_)
            go_simp
            refine hK.out _ ((W2).alloc (.cells #[.int .i64 kd, .int .i64 kk, .int .u32 ((k : Int) * 41 % 2110), .int .i64 ((k : Int) % 41), .int .u8 (k : Int)] 26)) trivial ?_
            clear hK K
            refine wpT_one (i := 21) (by kernel_rfl) rfl (fun K hK => ?_)
            refine step_append_go rfl (.tmp 11) (.tmp 31) 22 22 rfl _ _ rfl rfl RB.out ?_
            simp only [Act.put, List.setIfInBounds_toArray, List.set_cons_zero, List.set_cons_succ]
            refine hK.out _ _ trivial ?_
            clear hK K
            refine wpT_last (by kernel_rfl) rfl (by kernel_rfl) (fun K hK => ?_)
            go_simp
            refine hK.out _ _ ?_
            clear hK K
            go_wp2_with fail
            go_roundw
            case rel => exact ⟨k + 1, _, by omega, by go_num, ob, HN.out, bb⟩
            case measure => simp [intOf]; omega
          · go_simp
            refine hK.out _ (W2) trivial ?_
            clear hK K
            refine wpT_one (i := 5) (by kernel_rfl) rfl (fun K hK => ?_)
            go_simp
            refine hK.out _ (W2) trivial ?_
            clear hK K
            refine wpT_take (i := 19) (v := ?_) rfl (by kernel_rfl) (by kernel_rfl) (by kernel_rfl) (by kernel_rfl) (fun _ _ _ h => h) trivial (Or.inl ⟨by rfl, fun w hSw => ?_⟩) ?_
            rotate_left
            · go_simp
              try with_reducible rfl
            simp only [Act.put, List.setIfInBounds_toArray, List.set_cons_zero, List.set_cons_succ]
            refine wpT_one (i := 20) (by kernel_rfl) rfl (fun K hK => ?_)
            go_simp
            refine hK.out _ ((W2).alloc (.cells #[.int .i64 kd, .int .i64 kk, .int .u32 ((k : Int) * 41 % 2110), .int .i64 ((k : Int) % 41), .int .u8 (k : Int)] 26)) trivial ?_
            clear hK K
            refine wpT_one (i := 21) (by kernel_rfl) rfl (fun K hK => ?_)
            refine step_append_go rfl (.tmp 11) (.tmp 31) 22 22 rfl _ _ rfl rfl RB.out ?_
            simp only [Act.put, List.setIfInBounds_toArray, List.set_cons_zero, List.set_cons_succ]
            refine hK.out _ _ trivial ?_
            clear hK K
            refine wpT_last (by kernel_rfl) rfl (by kernel_rfl) (fun K hK => ?_)
            go_simp
            refine hK.out _ _ ?_
            clear hK K
            go_wp2_with fail
            go_roundw
            case rel => exact ⟨k + 1, _, by omega, by go_num, ob, HN.out, bb⟩
            case measure => simp [intOf]; omega
        · go_simp
          refine hK.out _ (W1) trivial ?_
          clear hK K
          refine wpT_one (i := 1) (by kernel_rfl) rfl (fun K hK => ?_)
          go_simp
          refine hK.out _ (W1.alloc (.cells #[.int .i64 5, .int .i64 0, .int .i64 1, .int .i64 0, .int .i64 4, .int .i64 3, .int .i64 2] 3)) trivial ?_
          clear hK K
          generalize W1.alloc (.cells #[.int .i64 5, .int .i64 0, .int .i64 1, .int .i64 0, .int .i64 4, .int .i64 3, .int .i64 2] 3) = W2 at b2 b3 RB y2 ⊢
          refine wpT_take (i := 4) (v := ?_) rfl (by kernel_rfl) (by kernel_rfl) (by kernel_rfl) (by kernel_rfl) (fun _ _ _ h => h) trivial (Or.inl ⟨by rfl, fun w hSw => ?_⟩) ?_
          rotate_left
          · go_simp
            try with_reducible rfl
          simp only [Act.put, List.setIfInBounds_toArray, List.set_cons_zero, List.set_cons_succ]
          refine wpT_one (i := 5) (by kernel_rfl) rfl (fun K hK => ?_)
          go_simp
          refine hK.out _ (W2) trivial ?_
          clear hK K
          refine wpT_take (i := 19) (v := ?_) rfl (by kernel_rfl) (by kernel_rfl) (by kernel_rfl) (by kernel_rfl) (fun _ _ _ h => h) trivial (Or.inl ⟨by rfl, fun w hSw => ?_⟩) ?_
          rotate_left
          · go_simp
            try with_reducible rfl
          simp only [Act.put, List.setIfInBounds_toArray, List.set_cons_zero, List.set_cons_succ]
          refine wpT_one (i := 20) (by kernel_rfl) rfl (fun K hK => ?_)
          go_simp
          refine hK.out _ ((W2).alloc (.cells #[.int .i64 kd, .int .i64 kk, .int .u32 ((k : Int) * 41 % 2110), .int .i64 ((k : Int) % 41), .int .u8 (k : Int)] 26)) trivial ?_
          clear hK K
          refine wpT_one (i := 21) (by kernel_rfl) rfl (fun K hK => ?_)
          refine step_append_go rfl (.tmp 11) (.tmp 31) 22 22 rfl _ _ rfl rfl RB.out ?_
          simp only [Act.put, List.setIfInBounds_toArray, List.set_cons_zero, List.set_cons_succ]
          refine hK.out _ _ trivial ?_
          clear hK K
          refine wpT_last (by kernel_rfl) rfl (by kernel_rfl) (fun K hK => ?_)
          go_simp
          refine hK.out _ _ ?_
          clear hK K
          go_wp2_with fail
          go_roundw
          case rel => exact ⟨k + 1, _, by omega, by go_num, ob, HN.out, bb⟩
          case measure => simp [intOf]; omega
    · have hk78 : 78 ≤ k := by omega
      have hkI : ¬ (k : Int) < 78 := by omega
      obtain ⟨a, cap, rfl, hA⟩ := asks_made (by omega) hown hE
      have HAF : Hid (∀ w', Below wr.heap.size wr w' → Asks w' w'.heap.size a k) := Lib.hid fun w' h => asks_below hA h
      have HBF : Hid (∀ w', Below wr.heap.size wr w' → Below w.heap.size w w') := Lib.hid fun w' h => hB.trans (h.mono hB.size)
      clear hA hown hE hlt hB
      go_wp2_with fail
      generalize wr = W1 at HAF HBF ⊢
      go_loopw [3] (fun s wr => ∃ n : Nat, n ≤ 212 ∧ s = .int .i64 n ∧ Below W1.heap.size W1 wr) (fun s _ => 213 - (intOf s).toNat)
      case atStart => exact ⟨0, by omega, rfl, Below.refl _ _⟩
      case round =>
        obtain ⟨n, hn, rfl, hb3⟩ := hrel
        by_cases hlt : n < 200
        · have hltI : (n : Int) < 200 := by omega
          have hm1 := run_make_row' (P := Try.prog) 28 5 (.int .u8 0) 1 Try.underlying28 info_u8 rfl .i64 .i64 n (by omega) (by omega)
          have hv : ByAt (fun _ => True) (wr.alloc (.cells (madeCells #[.int .u8 0] n) 5)) (.slice (some ⟨wr.heap.size, 0, none⟩) n n) n Z0 := row_by (World.rowIs_made wr (.int .u8 0) n 5) (fun _ => ⟨Int.le_refl 0, by show (0 : Int) ≤ 255; omega⟩)
          have hb4 : Below W1.heap.size W1 (wr.alloc (.cells (madeCells #[.int .u8 0] n) 5)) := hb3.alloc hb3.size _
          have HA := Lib.hid (HAF.out _ hb4)
          have HV := Lib.hid hv
          clear hv hb3
          go_wp2_with fail
          generalize wr.alloc (.cells (madeCells #[.int .u8 0] n) 5) = w4 at hb4 HA HV ⊢
          with_reducible refine (play_any _ n Z0 _ _ _ true _ HV (by omega) HA (by omega)).mono ?_
          rintro e w5 ⟨rfl, hb5⟩
          have h5 := hb4.trans (hb5.mono hb4.size)
          clear hm1
          go_wp2_with fail
          go_roundw
          case rel => exact ⟨n + 13, by omega, by go_num, h5⟩
          case measure => simp [intOf]; omega
        · have hge : ¬ (n : Int) < 200 := by omega
          have hm1 : ∀ w, (Instr.makeSlice 28 (.int .i64 9999) (.int .i64 9999)).run Try.prog w = .ok (.slice (some ⟨w.heap.size, 0, none⟩) 9999 9999) (w.alloc (.cells (madeCells #[.int .u8 0] 9999) 5)) := run_make_row' (P := Try.prog) 28 5 (.int .u8 0) 1 Try.underlying28 info_u8 rfl .i64 .i64 9999 (by omega) (by omega)
          go_wp2_with fail
          refine (wnew_any wr).mono ?_
          rintro e w1 ⟨g, hg, rfl, hw, hb⟩
          go_wp2_with fail
          with_reducible refine (mnew_any 1 1 rfl w1).mono ?_
          rintro e w2 ⟨r, M, rfl, ho, hm, hb2⟩
          have hw2 := hw.below hb2
          have hog : ¬ M g := fun e => by have := ho g e; have := hw.lt g (.inl rfl); omega
          have bl : Below w2.heap.size w2 (w2.alloc (.cells (madeCells #[.int .u8 0] 9999) 5)) := (Below.refl _ _).alloc (Nat.le_refl _) _
          have hv : ByAt (fun _ => True) (w2.alloc (.cells (madeCells #[.int .u8 0] 9999) 5)) (.slice (some ⟨w2.heap.size, 0, none⟩) 9999 9999) 9999 Z0 := row_by (World.rowIs_made w2 (.int .u8 0) 9999 5) (fun _ => ⟨Int.le_refl 0, by show (0 : Int) ≤ 255; omega⟩)
          have hw3 := hw2.below bl
          have hm3 := hm.below bl
          have hs1 := hb.size
          have hs2 := hb2.size
          have hbA : Below W1.heap.size W1 (w2.alloc (.cells (madeCells #[.int .u8 0] 9999) 5)) := hb3.trans ((hb.trans ((hb2.trans (bl.mono hs2)).mono hs1)).mono hb3.size)
          clear hw2 hm bl hg hw hb ho hb2 hs1 hs2 hb3
          go_wp2_with fail
          generalize w2.alloc (.cells (madeCells #[.int .u8 0] 9999) 5) = w2' at hw3 hm3 hbA hv ⊢
          generalize w2.heap.size = Bm at hv ⊢
          with_reducible refine (dnew_any 5 _ 9999 Z0 hw3 hm3 hog hv (by omega)).mono ?_
          rintro e w3 ⟨x, y, hx, hy, rfl, hD, hb3⟩
          have hD64 : Dk w3 x g r y (fun k => M k ∨ k = y) 1 64 5 (.slice none 0 0) (S00 Z0 (imD 9999 Z0)) := hD
          have hbB := hbA.trans (hb3.mono hbA.size)
          clear hw3 hm3 hbA hv hog hx hy hD hb3 hm1
          have bl3 : Below w3.heap.size w3 (w3.alloc (.cells #[.int .u8 105, .int .u8 109, .int .u8 97, .int .u8 103, .int .u8 101] 5 (5, 6))) := (Below.refl _ _).alloc (Nat.le_refl _) _
          have kc := Lib.run_convert_bytes_const (P := Try.prog) w3 28 5 #[.int .u8 105, .int .u8 109, .int .u8 97, .int .u8 103, .int .u8 101] 5 5 Try.underlying28 Try.underlying5
          have hv := lit_by iF_bd w3 5 #[.int .u8 105, .int .u8 109, .int .u8 97, .int .u8 103, .int .u8 101] 5 (5, 6) (fun i hi => by
            have : i = 0 ∨ i = 1 ∨ i = 2 ∨ i = 3 ∨ i = 4 := by omega
            rcases this with rfl | rfl | rfl | rfl | rfl <;> rfl)
          have hD4 := hD64.below bl3
          have hb4 := hbB.trans (bl3.mono hbB.size)
          have HA := Lib.hid (HAF.out _ hb4)
          have HV := Lib.hid hv
          clear hD64 hbB bl3 hv
          go_wp2_with fail
          generalize w3.alloc (.cells #[.int .u8 105, .int .u8 109, .int .u8 97, .int .u8 103, .int .u8 101] 5 (5, 6)) = w4 at hD4 hb4 HA HV ⊢
          generalize w3.heap.size = Bi at HV ⊢
          with_reducible refine (play_any _ 5 iF _ _ _ false _ HV (by omega) HA (by omega)).mono ?_
          rintro e w5 ⟨rfl, hb5⟩
          have hD5 := hD4.below hb5
          have h5 := hb4.trans (hb5.mono hb4.size)
          clear kc
          go_wp2_with fail
          with_reducible refine (dsect_any hD5 (by omega)).mono ?_
          rintro e w6 ⟨rfl, rfl⟩
          go_wp2_with fail
          with_reducible refine (known_any w5).mono ?_
          rintro e w7 ⟨rfl, hb7⟩
          have h7 := h5.trans (hb7.mono h5.size)
          go_wp2
          go_ret
          exact ⟨rfl, HBF.out _ h7⟩
end Go.Proofs.Ytifhnidcdfpabaa
