/-
  Chapter 13: the walk of DmaNumbers: it returns true, and nothing that was there has turned.
-/
import Derived.Test.YtamaonkepfkgnaaNx13
import Derived.Deep.RegionHeld3
import Derived.Deep.DeepCutAuto
import Derived.Deep.CutBlock
namespace Go.Proofs.Ytamaonkepfkgnaa
open Go.RowKit
set_option linter.unusedVariables false
set_option linter.unusedSimpArgs false
/-- the numbers of kinds and of words that calls take in turn -/
def kdL : List Int := [5, 0, 1, 0, 1, 4, 3, 2]
def kkL : List Int := [0, 1, 2, 3, 4]
theorem kk_rng (j : Nat) (h : j < 5) : 0 ≤ kkL.getD j 0 ∧ kkL.getD j 0 ≤ 4 := by
  have h2 : ∀ j, j < 5 → 0 ≤ kkL.getD j 0 ∧ kkL.getD j 0 ≤ 4 := by decide
  exact h2 _ h
/-- the moves that are asked, word by word -/
def trL : List Int := [0, 10, 30, 10, 0, 30, 2040, 0, 8, 2040, 0, 9, 0, 2040, 9, 0, 0, 5000, 4294967280, 0, 4, 5, 5, 0]
theorem tr_rng (j : Nat) (h : j < 24) : 0 ≤ trL.getD j 0 ∧ trL.getD j 0 < 4294967296 := by
  have h2 : ∀ j, j < 24 → 0 ≤ trL.getD j 0 ∧ trL.getD j 0 < 4294967296 := by decide
  exact h2 _ h
/-- three words in a row -/
def tri (a b c : Int) : Nat → Int
  | 0 => a
  | 1 => b
  | _ => c
theorem tri_rng {a b c : Int} (ha : 0 ≤ a ∧ a < 4294967296) (hb : 0 ≤ b ∧ b < 4294967296) (hc : 0 ≤ c ∧ c < 4294967296) (i : Nat) : 0 ≤ tri a b c i ∧ tri a b c i < 4294967296 := by
  match i with
  | 0 => exact ha
  | 1 => exact hb
  | _ + 2 => exact hc
/-- the last eight calls -/
def last8 : Array Value := #[.int .i64 0, .int .i64 3, .int .u32 1, .int .i64 0, .int .u8 0, .int .i64 0, .int .i64 3, .int .u32 1, .int .i64 0, .int .u8 0, .int .i64 4, .int .i64 0, .int .u32 0, .int .i64 1100, .int .u8 0, .int .i64 3, .int .i64 0, .int .u32 0, .int .i64 0, .int .u8 0,
  .int .i64 2, .int .i64 4, .int .u32 0, .int .i64 0, .int .u8 0, .int .i64 0, .int .i64 4, .int .u32 2, .int .i64 0, .int .u8 0, .int .i64 2, .int .i64 4, .int .u32 0, .int .i64 0, .int .u8 0, .int .i64 0, .int .i64 4, .int .u32 6, .int .i64 0, .int .u8 0]
theorem ok_lit (kd kk y by_ bb : Int) (h : -9223372036854775808 ≤ kk ∧ kk ≤ 9223372036854775807 ∧ 0 ≤ y ∧ y < 4294967296 ∧ -9223372036854775808 ≤ by_ ∧ by_ ≤ 9223372036854775807 ∧ 0 ≤ bb ∧ bb < 256) : OkE (vec5 (.int .i64 kd) (.int .i64 kk) (.int .u32 y) (.int .i64 by_) (.int .u8 bb)) := ⟨kd, kk, y, by_, bb, rfl, h⟩
theorem last_ok {EL : Nat → Nat → Value} {k : Nat} (h : ∀ i, i < k → OkE (EL i)) : ∃ EL2, cells5 EL k ++ last8.toList = cells5 EL2 (k + 8) ∧ ∀ i, i < k + 8 → OkE (EL2 i) := by
  have e : cells5 EL k ++ last8.toList = (((((((cells5 EL k ++ [.int .i64 0, .int .i64 3, .int .u32 1, .int .i64 0, .int .u8 0]) ++ [.int .i64 0, .int .i64 3, .int .u32 1, .int .i64 0, .int .u8 0]) ++ [.int .i64 4, .int .i64 0, .int .u32 0, .int .i64 1100, .int .u8 0]) ++ [.int .i64 3, .int .i64 0, .int .u32 0, .int .i64 0, .int .u8 0]) ++ [.int .i64 2, .int .i64 4, .int .u32 0, .int .i64 0, .int .u8 0]) ++ [.int .i64 0, .int .i64 4, .int .u32 2, .int .i64 0, .int .u8 0]) ++ [.int .i64 2, .int .i64 4, .int .u32 0, .int .i64 0, .int .u8 0]) ++ [.int .i64 0, .int .i64 4, .int .u32 6, .int .i64 0, .int .u8 0] := by
    simp [last8]
  rw [e, cells5_snoc, cells5_snoc, cells5_snoc, cells5_snoc, cells5_snoc, cells5_snoc, cells5_snoc, cells5_snoc]
  exact ⟨_, rfl, ok_snoc (ok_snoc (ok_snoc (ok_snoc (ok_snoc (ok_snoc (ok_snoc (ok_snoc h (ok_lit _ _ _ _ _ (by decide))) (ok_lit _ _ _ _ _ (by decide))) (ok_lit _ _ _ _ _ (by decide))) (ok_lit _ _ _ _ _ (by decide))) (ok_lit _ _ _ _ _ (by decide))) (ok_lit _ _ _ _ _ (by decide))) (ok_lit _ _ _ _ _ (by decide))) (ok_lit _ _ _ _ _ (by decide))⟩
set_option maxRecDepth 100000 in
set_option maxHeartbeats 8000000 in
theorem numbers_walk (w : World) : Calls Try.prog 3 #[] w (RetB (.bool true) w) := by
  go_enter Try.func3, Try.ntmps3
  go_wp2_with fail
  go_loopw [1, 2] (fun v i wr => ∃ (k : Nat) (EL : Nat → Nat → Value), k ≤ 80 ∧ i = .int .i64 k ∧ wr.ownsRow w.heap.size 26 5 v k (cells5 EL k) ∧ (∀ i, i < k → OkE (EL i)) ∧ Below w.heap.size w wr) (fun _ i _ => 80 - (intOf i).toNat)
  case atStart => exact ⟨0, fun _ _ => .bool false, by omega, rfl, World.ownsRow_nil _ _ _ _, fun i hi => absurd hi (by omega), Below.refl _ _⟩
  case round =>
    obtain ⟨k, EL, hk, rfl, hown, hE, hB⟩ := hrel
    by_cases hlt : k < 80
    · obtain ⟨j1, hj1, e1⟩ : ∃ j1 : Nat, j1 = k % 8 ∧ (k : Int) % 8 = (j1 : Int) := ⟨k % 8, rfl, by omega⟩
      obtain ⟨j2, hj2, e2⟩ : ∃ j2 : Nat, j2 = k % 5 ∧ (k : Int) % 5 = (j2 : Int) := ⟨k % 5, rfl, by omega⟩
      have l1 : j1 < 8 := by omega
      have l2 : j2 < 5 := by omega
      have l3 : (j1 : Int) < 8 := by omega
      have l4 : (j2 : Int) < 5 := by omega
      obtain ⟨kd, hkd⟩ : ∃ kd, kdL.getD j1 0 = kd := ⟨_, rfl⟩
      obtain ⟨kk, hkk⟩ : ∃ kk, kkL.getD j2 0 = kk := ⟨_, rfl⟩
      have kb := kk_rng j2 l2
      rw [hkk] at kb
      have HN : Hid (∀ i, i < k + 1 → OkE ((fun i => if i = k then vec5 (.int .i64 kd) (.int .i64 kk) (.int .u32 ((k : Int) * 53 % 2100)) (.int .i64 ((k : Int) * 30 % 1100)) (.int .u8 (k : Int)) else EL i) i)) :=
        Lib.hid (ok_snoc hE ⟨kd, kk, _, _, _, rfl, by omega, by omega, by omega, by omega, by omega, by omega, by omega, by omega⟩)
      have hA : ∀ W : World, (W.alloc (.cells #[.int .i64 5, .int .i64 0, .int .i64 1, .int .i64 0, .int .i64 1, .int .i64 4, .int .i64 3, .int .i64 2] 3)).cell? ⟨W.heap.size, j1, none⟩ = some (.int .i64 kd) := fun W => by
        rw [← hkd]; exact lit_at .i64 W kdL _ _ rfl j1 l1
      have hC : ∀ W : World, (W.alloc (.cells #[.int .i64 0, .int .i64 1, .int .i64 2, .int .i64 3, .int .i64 4] 3)).cell? ⟨W.heap.size, j2, none⟩ = some (.int .i64 kk) := fun W => by
        rw [← hkk]; exact lit_at .i64 W kkL _ _ rfl j2 l2
      have t1 : (k : Int).tmod 8 = (j1 : Int) := by rw [Int.tmod_eq_emod_of_nonneg (by omega)]; exact e1
      have t2 : (k : Int).tmod 5 = (j2 : Int) := by rw [Int.tmod_eq_emod_of_nonneg (by omega)]; exact e2
      have m1 : IntKind.i64.wrap ((k : Int) * 53) = (k : Int) * 53 := by rw [IntKind.wrap_i64]; omega
      have m2 : ((k : Int) * 53).tmod 2100 = (k : Int) * 53 % 2100 := Int.tmod_eq_emod_of_nonneg (by omega)
      have m3 : IntKind.i64.wrap ((k : Int) * 53 % 2100) = (k : Int) * 53 % 2100 := by rw [IntKind.wrap_i64]; omega
      have m4 : IntKind.u32.wrap ((k : Int) * 53 % 2100) = (k : Int) * 53 % 2100 := by rw [IntKind.wrap_u32']; omega
      have m5 : IntKind.i64.wrap ((k : Int) * 30) = (k : Int) * 30 := by rw [IntKind.wrap_i64]; omega
      have m6 : ((k : Int) * 30).tmod 1100 = (k : Int) * 30 % 1100 := Int.tmod_eq_emod_of_nonneg (by omega)
      have m7 : IntKind.i64.wrap ((k : Int) * 30 % 1100) = (k : Int) * 30 % 1100 := by rw [IntKind.wrap_i64]; omega
      have m8 : IntKind.u8.wrap (k : Int) = (k : Int) := by rw [IntKind.wrap_u8']; omega
      have t7 : IntKind.i64.wrap (j1 : Int) = (j1 : Int) := by rw [IntKind.wrap_i64]; omega
      have t8 : IntKind.i64.wrap (j2 : Int) = (j2 : Int) := by rw [IntKind.wrap_i64]; omega
      clear hj1 hj2 e1 e2 hkd hkk kb hE
      have a1 : (wr.drew.alloc (.cells #[.int .i64 5, .int .i64 0, .int .i64 1, .int .i64 0, .int .i64 1, .int .i64 4, .int .i64 3, .int .i64 2] 3)).cell? ⟨wr.heap.size, j1, none⟩ = some (.int .i64 kd) := hA wr.drew
      have a2 : ((wr.drew.alloc (.cells #[.int .i64 5, .int .i64 0, .int .i64 1, .int .i64 0, .int .i64 1, .int .i64 4, .int .i64 3, .int .i64 2] 3)).alloc (.cells #[.int .i64 0, .int .i64 1, .int .i64 2, .int .i64 3, .int .i64 4] 3)).cell? ⟨wr.heap.size, j1, none⟩ = some (.int .i64 kd) := elder_at _ _ a1
      have a3 : ((wr.drew.alloc (.cells #[.int .i64 5, .int .i64 0, .int .i64 1, .int .i64 0, .int .i64 1, .int .i64 4, .int .i64 3, .int .i64 2] 3)).alloc (.cells #[.int .i64 0, .int .i64 1, .int .i64 2, .int .i64 3, .int .i64 4] 3)).cell? ⟨wr.heap.size + 1, j2, none⟩ = some (.int .i64 kk) := by
        have := hC (wr.drew.alloc (.cells #[.int .i64 5, .int .i64 0, .int .i64 1, .int .i64 0, .int .i64 1, .int .i64 4, .int .i64 3, .int .i64 2] 3))
        rwa [show (wr.drew.alloc (.cells #[.int .i64 5, .int .i64 0, .int .i64 1, .int .i64 0, .int .i64 1, .int .i64 4, .int .i64 3, .int .i64 2] 3)).heap.size = wr.heap.size + 1 from Array.size_push ..] at this
      have b1 : (wr.drew.alloc (.cells #[.int .i64 0, .int .i64 1, .int .i64 2, .int .i64 3, .int .i64 4] 3)).cell? ⟨wr.heap.size, j2, none⟩ = some (.int .i64 kk) := hC wr.drew
      have b2 : ((wr.drew.alloc (.cells #[.int .i64 0, .int .i64 1, .int .i64 2, .int .i64 3, .int .i64 4] 3)).alloc (.cells #[.int .i64 5, .int .i64 0, .int .i64 1, .int .i64 0, .int .i64 1, .int .i64 4, .int .i64 3, .int .i64 2] 3)).cell? ⟨wr.heap.size, j2, none⟩ = some (.int .i64 kk) := elder_at _ _ b1
      have b3 : ((wr.drew.alloc (.cells #[.int .i64 0, .int .i64 1, .int .i64 2, .int .i64 3, .int .i64 4] 3)).alloc (.cells #[.int .i64 5, .int .i64 0, .int .i64 1, .int .i64 0, .int .i64 1, .int .i64 4, .int .i64 3, .int .i64 2] 3)).cell? ⟨wr.heap.size + 1, j1, none⟩ = some (.int .i64 kd) := by
        have := hA (wr.drew.alloc (.cells #[.int .i64 0, .int .i64 1, .int .i64 2, .int .i64 3, .int .i64 4] 3))
        rwa [show (wr.drew.alloc (.cells #[.int .i64 0, .int .i64 1, .int .i64 2, .int .i64 3, .int .i64 4] 3)).heap.size = wr.heap.size + 1 from Array.size_push ..] at this
      have x1 : (wr.drew.alloc (.cells #[.int .i64 5, .int .i64 0, .int .i64 1, .int .i64 0, .int .i64 1, .int .i64 4, .int .i64 3, .int .i64 2] 3)).heap.size = wr.heap.size + 1 := Array.size_push ..
      have x2 : ((wr.drew.alloc (.cells #[.int .i64 5, .int .i64 0, .int .i64 1, .int .i64 0, .int .i64 1, .int .i64 4, .int .i64 3, .int .i64 2] 3)).alloc (.cells #[.int .i64 0, .int .i64 1, .int .i64 2, .int .i64 3, .int .i64 4] 3)).heap.size = wr.heap.size + 1 + 1 := by rw [show ((wr.drew.alloc (.cells #[.int .i64 5, .int .i64 0, .int .i64 1, .int .i64 0, .int .i64 1, .int .i64 4, .int .i64 3, .int .i64 2] 3)).alloc (.cells #[.int .i64 0, .int .i64 1, .int .i64 2, .int .i64 3, .int .i64 4] 3)).heap.size = (wr.drew.alloc (.cells #[.int .i64 5, .int .i64 0, .int .i64 1, .int .i64 0, .int .i64 1, .int .i64 4, .int .i64 3, .int .i64 2] 3)).heap.size + 1 from Array.size_push .., x1]
      have y1 : (wr.drew.alloc (.cells #[.int .i64 0, .int .i64 1, .int .i64 2, .int .i64 3, .int .i64 4] 3)).heap.size = wr.heap.size + 1 := Array.size_push ..
      have y2 : ((wr.drew.alloc (.cells #[.int .i64 0, .int .i64 1, .int .i64 2, .int .i64 3, .int .i64 4] 3)).alloc (.cells #[.int .i64 5, .int .i64 0, .int .i64 1, .int .i64 0, .int .i64 1, .int .i64 4, .int .i64 3, .int .i64 2] 3)).heap.size = wr.heap.size + 1 + 1 := by rw [show ((wr.drew.alloc (.cells #[.int .i64 0, .int .i64 1, .int .i64 2, .int .i64 3, .int .i64 4] 3)).alloc (.cells #[.int .i64 5, .int .i64 0, .int .i64 1, .int .i64 0, .int .i64 1, .int .i64 4, .int .i64 3, .int .i64 2] 3)).heap.size = (wr.drew.alloc (.cells #[.int .i64 0, .int .i64 1, .int .i64 2, .int .i64 3, .int .i64 4] 3)).heap.size + 1 from Array.size_push .., y1]
      have hb1 : Below wr.heap.size wr ((wr.drew.alloc (.cells #[.int .i64 5, .int .i64 0, .int .i64 1, .int .i64 0, .int .i64 1, .int .i64 4, .int .i64 3, .int .i64 2] 3)).alloc (.cells #[.int .i64 0, .int .i64 1, .int .i64 2, .int .i64 3, .int .i64 4] 3)) := (((Below.refl _ wr).drew).alloc (Nat.le_refl _) _).alloc (by simp) _
      have hb2 : Below wr.heap.size wr ((wr.drew.alloc (.cells #[.int .i64 0, .int .i64 1, .int .i64 2, .int .i64 3, .int .i64 4] 3)).alloc (.cells #[.int .i64 5, .int .i64 0, .int .i64 1, .int .i64 0, .int .i64 1, .int .i64 4, .int .i64 3, .int .i64 2] 3)) := (((Below.refl _ wr).drew).alloc (Nat.le_refl _) _).alloc (by simp) _
      obtain ⟨va, wa, ra, oa, ba⟩ := app_ask (X := wr.heap.size + 1 + 1) kd kk ((k : Int) * 53 % 2100) ((k : Int) * 30 % 1100) (k : Int) (by omega) hown hb1 (by simp) hB
      obtain ⟨vb, wb, rb, ob, bb⟩ := app_ask (X := wr.heap.size + 1 + 1) kd kk ((k : Int) * 53 % 2100) ((k : Int) * 30 % 1100) (k : Int) (by omega) hown hb2 (by simp) hB
      have RA := Lib.hid ra
      have RB := Lib.hid rb
      clear ra rb hA hC hb1 hb2 hown
      go_wp2_with fail
      refine wp_region_T (S := fun W : World => True) 23 (by kernel_rfl) ?_
      refine wpT_take (i := 0) (v := ?_) rfl (by kernel_rfl) (by kernel_rfl) (by kernel_rfl) (by kernel_rfl) (fun _ _ _ h => h) trivial (Or.inl ⟨by rfl, fun w hSw => ?_⟩) ?_
      rotate_left
      · go_simp
        try with_reducible rfl
      simp only [Act.put, List.setIfInBounds_toArray, List.set_cons_zero, List.set_cons_succ]
      refine wpT_take (i := 2) (v := ?_) rfl (by kernel_rfl) (by kernel_rfl) (by kernel_rfl) (by kernel_rfl) (fun _ _ _ h => h) trivial (Or.inl ⟨by rfl, fun w hSw => ?_⟩) ?_
      rotate_left
      · go_simp
        try with_reducible rfl
      simp only [Act.put, List.setIfInBounds_toArray, List.set_cons_zero, List.set_cons_succ]
      refine wpT_take (i := 3) (v := ?_) rfl (by kernel_rfl) (by kernel_rfl) (by kernel_rfl) (by kernel_rfl) (fun _ _ _ h => h) trivial (Or.inl ⟨by rfl, fun w hSw => ?_⟩) ?_
      rotate_left
      · go_simp
        try with_reducible rfl
      simp only [Act.put, List.setIfInBounds_toArray, List.set_cons_zero, List.set_cons_succ]
      refine wpT_take (i := 7) (v := ?_) rfl (by kernel_rfl) (by kernel_rfl) (by kernel_rfl) (by kernel_rfl) (fun _ _ _ h => h) trivial (Or.inl ⟨by rfl, fun w hSw => ?_⟩) ?_
      rotate_left
      · go_simp
        try with_reducible rfl
      simp only [Act.put, List.setIfInBounds_toArray, List.set_cons_zero, List.set_cons_succ]
      refine wpT_take (i := 8) (v := ?_) rfl (by kernel_rfl) (by kernel_rfl) (by kernel_rfl) (by kernel_rfl) (fun _ _ _ h => h) trivial (Or.inl ⟨by rfl, fun w hSw => ?_⟩) ?_
      rotate_left
      · go_simp
        try with_reducible rfl
      simp only [Act.put, List.setIfInBounds_toArray, List.set_cons_zero, List.set_cons_succ]
      refine wpT_take (i := 11) (v := ?_) rfl (by kernel_rfl) (by kernel_rfl) (by kernel_rfl) (by kernel_rfl) (fun _ _ _ h => h) trivial (Or.inl ⟨by rfl, fun w hSw => ?_⟩) ?_
      rotate_left
      · go_simp
        try with_reducible rfl
      simp only [Act.put, List.setIfInBounds_toArray, List.set_cons_zero, List.set_cons_succ]
      refine wpT_take (i := 12) (v := ?_) rfl (by kernel_rfl) (by kernel_rfl) (by kernel_rfl) (by kernel_rfl) (fun _ _ _ h => h) trivial (Or.inl ⟨by rfl, fun w hSw => ?_⟩) ?_
      rotate_left
      · go_simp
        try with_reducible rfl
      simp only [Act.put, List.setIfInBounds_toArray, List.set_cons_zero, List.set_cons_succ]
      refine wpT_take (i := 13) (v := ?_) rfl (by kernel_rfl) (by kernel_rfl) (by kernel_rfl) (by kernel_rfl) (fun _ _ _ h => h) trivial (Or.inl ⟨by rfl, fun w hSw => ?_⟩) ?_
      rotate_left
      · go_simp
        try with_reducible rfl
      simp only [Act.put, List.setIfInBounds_toArray, List.set_cons_zero, List.set_cons_succ]
      refine wpT_take (i := 14) (v := ?_) rfl (by kernel_rfl) (by kernel_rfl) (by kernel_rfl) (by kernel_rfl) (fun _ _ _ h => h) trivial (Or.inl ⟨by rfl, fun w hSw => ?_⟩) ?_
      rotate_left
      · go_simp
        try with_reducible rfl
      simp only [Act.put, List.setIfInBounds_toArray, List.set_cons_zero, List.set_cons_succ]
      refine wpT_take (i := 15) (v := ?_) rfl (by kernel_rfl) (by kernel_rfl) (by kernel_rfl) (by kernel_rfl) (fun _ _ _ h => h) trivial (Or.inl ⟨by rfl, fun w hSw => ?_⟩) ?_
      rotate_left
      · go_simp
        try with_reducible rfl
      simp only [Act.put, List.setIfInBounds_toArray, List.set_cons_zero, List.set_cons_succ]
      refine wpT_take (i := 16) (v := ?_) rfl (by kernel_rfl) (by kernel_rfl) (by kernel_rfl) (by kernel_rfl) (fun _ _ _ h => h) trivial (Or.inl ⟨by rfl, fun w hSw => ?_⟩) ?_
      rotate_left
      · go_simp
        try with_reducible rfl
      simp only [Act.put, List.setIfInBounds_toArray, List.set_cons_zero, List.set_cons_succ]
      refine wpT_take (i := 17) (v := ?_) rfl (by kernel_rfl) (by kernel_rfl) (by kernel_rfl) (by kernel_rfl) (fun _ _ _ h => h) trivial (Or.inl ⟨by rfl, fun w hSw => ?_⟩) ?_
      rotate_left
      · go_simp
        try with_reducible rfl
      simp only [Act.put, List.setIfInBounds_toArray, List.set_cons_zero, List.set_cons_succ]
      refine wpT_take (i := 18) (v := ?_) rfl (by kernel_rfl) (by kernel_rfl) (by kernel_rfl) (by kernel_rfl) (fun _ _ _ h => h) trivial (Or.inl ⟨by rfl, fun w hSw => ?_⟩) ?_
      rotate_left
      · go_simp
        try with_reducible rfl
      simp only [Act.put, List.setIfInBounds_toArray, List.set_cons_zero, List.set_cons_succ]
      refine wpT_take (i := 19) (v := ?_) rfl (by kernel_rfl) (by kernel_rfl) (by kernel_rfl) (by kernel_rfl) (fun _ _ _ h => h) trivial (Or.inl ⟨by rfl, fun w hSw => ?_⟩) ?_
      rotate_left
      · go_simp
        try with_reducible rfl
      simp only [Act.put, List.setIfInBounds_toArray, List.set_cons_zero, List.set_cons_succ]
      refine wpT_two (i := 1) (j := 6) (by kernel_rfl) rfl rfl (fun K hK => ?_) (fun K hK => ?_)
      · go_simp
        refine hK.out _ (wr.drew.alloc (.cells #[.int .i64 5, .int .i64 0, .int .i64 1, .int .i64 0, .int .i64 1, .int .i64 4, .int .i64 3, .int .i64 2] 3)) trivial ?_
        clear hK K
        generalize wr.drew.alloc (.cells #[.int .i64 5, .int .i64 0, .int .i64 1, .int .i64 0, .int .i64 1, .int .i64 4, .int .i64 3, .int .i64 2] 3) = W1 at a1 a2 a3 RA x1 x2 ⊢
        refine wpT_take (i := 4) (v := ?_) rfl (by kernel_rfl) (by kernel_rfl) (by kernel_rfl) (by kernel_rfl) (fun _ _ _ h => h) trivial (Or.inl ⟨by rfl, fun w hSw => ?_⟩) ?_
        rotate_left
        · go_simp
          try with_reducible rfl
        simp only [Act.put, List.setIfInBounds_toArray, List.set_cons_zero, List.set_cons_succ]
        refine wpT_two (i := 5) (j := 6) (by kernel_rfl) rfl rfl (fun K hK => ?_) (fun K hK => ?_)
        · go_simp
          refine hK.out _ (W1) trivial ?_
          clear hK K
          refine wpT_one (i := 6) (by kernel_rfl) rfl (fun K hK => ?_)
          go_simp
          refine hK.out _ (W1.alloc (.cells #[.int .i64 0, .int .i64 1, .int .i64 2, .int .i64 3, .int .i64 4] 3)) trivial ?_
          clear hK K
          generalize W1.alloc (.cells #[.int .i64 0, .int .i64 1, .int .i64 2, .int .i64 3, .int .i64 4] 3) = W2 at a2 a3 RA x2 ⊢
          refine wpT_take (i := 9) (v := ?_) rfl (by kernel_rfl) (by kernel_rfl) (by kernel_rfl) (by kernel_rfl) (fun _ _ _ h => h) trivial (Or.inl ⟨by rfl, fun w hSw => ?_⟩) ?_
          rotate_left
          · go_simp
            try with_reducible rfl
          simp only [Act.put, List.setIfInBounds_toArray, List.set_cons_zero, List.set_cons_succ]
          refine wpT_one (i := 10) (by kernel_rfl) rfl (fun K hK => ?_)
          go_simp
          refine hK.out _ (W2) trivial ?_
          clear hK K
          refine wpT_take (i := 20) (v := ?_) rfl (by kernel_rfl) (by kernel_rfl) (by kernel_rfl) (by kernel_rfl) (fun _ _ _ h => h) trivial (Or.inl ⟨by rfl, fun w hSw => ?_⟩) ?_
          rotate_left
          · go_simp
            try with_reducible rfl
          simp only [Act.put, List.setIfInBounds_toArray, List.set_cons_zero, List.set_cons_succ]
          refine wpT_one (i := 21) (by kernel_rfl) rfl (fun K hK => ?_)
          go_simp
          refine hK.out _ ((W2).alloc (.cells #[.int .i64 kd, .int .i64 kk, .int .u32 ((k : Int) * 53 % 2100), .int .i64 ((k : Int) * 30 % 1100), .int .u8 (k : Int)] 26)) trivial ?_
          clear hK K
          refine wpT_one (i := 22) (by kernel_rfl) rfl (fun K hK => ?_)
          refine step_append_go rfl (.tmp 12) (.tmp 33) 22 22 rfl _ _ rfl rfl RA.out ?_
          simp only [Act.put, List.setIfInBounds_toArray, List.set_cons_zero, List.set_cons_succ]
          refine hK.out _ _ trivial ?_
          clear hK K
          refine wpT_last (by kernel_rfl) rfl (by kernel_rfl) (fun K hK => ?_)
          go_simp
          refine hK.out _ _ ?_
          clear hK K
          go_wp2_with fail
          go_roundw
          case rel => exact ⟨k + 1, _, by omega, by go_num, oa, HN.out, ba⟩
          case measure => simp [intOf]; omega
        · go_simp
          refine hK.out _ (W1.alloc (.cells #[.int .i64 0, .int .i64 1, .int .i64 2, .int .i64 3, .int .i64 4] 3)) trivial ?_
          clear hK K
          generalize W1.alloc (.cells #[.int .i64 0, .int .i64 1, .int .i64 2, .int .i64 3, .int .i64 4] 3) = W2 at a2 a3 RA x2 ⊢
          refine wpT_take (i := 9) (v := ?_) rfl (by kernel_rfl) (by kernel_rfl) (by kernel_rfl) (by kernel_rfl) (fun _ _ _ h => h) trivial (Or.inl ⟨by rfl, fun w hSw => ?_⟩) ?_
          rotate_left
          · go_simp
            try with_reducible rfl
          simp only [Act.put, List.setIfInBounds_toArray, List.set_cons_zero, List.set_cons_succ]
          refine wpT_two (i := 5) (j := 10) (by kernel_rfl) rfl rfl (fun K hK => ?_) (fun K hK => ?_)
          · go_simp
            refine hK.out _ (W2) trivial ?_
            clear hK K
            refine wpT_one (i := 10) (by kernel_rfl) rfl (fun K hK => ?_)
            go_simp
            refine hK.out _ (W2) trivial ?_
            clear hK K
            refine wpT_take (i := 20) (v := ?_) rfl (by kernel_rfl) (by kernel_rfl) (by kernel_rfl) (by kernel_rfl) (fun _ _ _ h => h) trivial (Or.inl ⟨by rfl, fun w hSw => ?_⟩) ?_
            rotate_left
            · go_simp
              try with_reducible rfl
            simp only [Act.put, List.setIfInBounds_toArray, List.set_cons_zero, List.set_cons_succ]
            refine wpT_one (i := 21) (by kernel_rfl) rfl (fun K hK => ?_)
            go_simp
            refine hK.out _ ((W2).alloc (.cells #[.int .i64 kd, .int .i64 kk, .int .u32 ((k : Int) * 53 % 2100), .int .i64 ((k : Int) * 30 % 1100), .int .u8 (k : Int)] 26)) trivial ?_
            clear hK K
            refine wpT_one (i := 22) (by kernel_rfl) rfl (fun K hK => ?_)
            refine step_append_go rfl (.tmp 12) (.tmp 33) 22 22 rfl _ _ rfl rfl RA.out ?_
            simp only [Act.put, List.setIfInBounds_toArray, List.set_cons_zero, List.set_cons_succ]
            refine hK.out _ _ trivial ?_
            clear hK K
            refine wpT_last (by kernel_rfl) rfl (by kernel_rfl) (fun K hK => ?_)
            go_simp
            refine hK.out _ _ ?_
            clear hK K
            go_wp2_with fail
            go_roundw
            case rel => exact ⟨k + 1, _, by omega, by go_num, oa, HN.out, ba⟩
            case measure => simp [intOf]; omega
          · go_simp
            refine hK.out _ (W2) trivial ?_
            clear hK K
            refine wpT_one (i := 5) (by kernel_rfl) rfl (fun K hK => ?_)
            go_simp
            refine hK.out _ (W2) trivial ?_
            clear hK K
            refine wpT_take (i := 20) (v := ?_) rfl (by kernel_rfl) (by kernel_rfl) (by kernel_rfl) (by kernel_rfl) (fun _ _ _ h => h) trivial (Or.inl ⟨by rfl, fun w hSw => ?_⟩) ?_
            rotate_left
            · go_simp
              try with_reducible rfl
            simp only [Act.put, List.setIfInBounds_toArray, List.set_cons_zero, List.set_cons_succ]
            refine wpT_one (i := 21) (by kernel_rfl) rfl (fun K hK => ?_)
            go_simp
            refine hK.out _ ((W2).alloc (.cells #[.int .i64 kd, .int .i64 kk, .int .u32 ((k : Int) * 53 % 2100), .int .i64 ((k : Int) * 30 % 1100), .int .u8 (k : Int)] 26)) trivial ?_
            clear hK K
            refine wpT_one (i := 22) (by kernel_rfl) rfl (fun K hK => ?_)
            refine step_append_go rfl (.tmp 12) (.tmp 33) 22 22 rfl _ _ rfl rfl RA.out ?_
            simp only [Act.put, List.setIfInBounds_toArray, List.set_cons_zero, List.set_cons_succ]
            refine hK.out _ _ trivial ?_
            clear hK K
            refine wpT_last (by kernel_rfl) rfl (by kernel_rfl) (fun K hK => ?_)
            go_simp
            refine hK.out _ _ ?_
            clear hK K
            go_wp2_with fail
            go_roundw
            case rel => exact ⟨k + 1, _, by omega, by go_num, oa, HN.out, ba⟩
            case measure => simp [intOf]; omega
      · go_simp
        refine hK.out _ (wr.drew.alloc (.cells #[.int .i64 0, .int .i64 1, .int .i64 2, .int .i64 3, .int .i64 4] 3)) trivial ?_
        clear hK K
        generalize wr.drew.alloc (.cells #[.int .i64 0, .int .i64 1, .int .i64 2, .int .i64 3, .int .i64 4] 3) = W1 at b1 b2 b3 RB y1 y2 ⊢
        refine wpT_take (i := 9) (v := ?_) rfl (by kernel_rfl) (by kernel_rfl) (by kernel_rfl) (by kernel_rfl) (fun _ _ _ h => h) trivial (Or.inl ⟨by rfl, fun w hSw => ?_⟩) ?_
        rotate_left
        · go_simp
          try with_reducible rfl
        simp only [Act.put, List.setIfInBounds_toArray, List.set_cons_zero, List.set_cons_succ]
        refine wpT_two (i := 1) (j := 10) (by kernel_rfl) rfl rfl (fun K hK => ?_) (fun K hK => ?_)
        · go_simp
          refine hK.out _ (W1.alloc (.cells #[.int .i64 5, .int .i64 0, .int .i64 1, .int .i64 0, .int .i64 1, .int .i64 4, .int .i64 3, .int .i64 2] 3)) trivial ?_
          clear hK K
          generalize W1.alloc (.cells #[.int .i64 5, .int .i64 0, .int .i64 1, .int .i64 0, .int .i64 1, .int .i64 4, .int .i64 3, .int .i64 2] 3) = W2 at b2 b3 RB y2 ⊢
          refine wpT_take (i := 4) (v := ?_) rfl (by kernel_rfl) (by kernel_rfl) (by kernel_rfl) (by kernel_rfl) (fun _ _ _ h => h) trivial (Or.inl ⟨by rfl, fun w hSw => ?_⟩) ?_
          rotate_left
          · go_simp
            try with_reducible rfl
          simp only [Act.put, List.setIfInBounds_toArray, List.set_cons_zero, List.set_cons_succ]
          refine wpT_two (i := 5) (j := 10) (by kernel_rfl) rfl rfl (fun K hK => ?_) (fun K hK => ?_)
          · go_simp
            refine hK.out _ (W2) trivial ?_
            clear hK K
            refine wpT_one (i := 10) (by kernel_rfl) rfl (fun K hK => ?_)
            go_simp
            refine hK.out _ (W2) trivial ?_
            clear hK K
            refine wpT_take (i := 20) (v := ?_) rfl (by kernel_rfl) (by kernel_rfl) (by kernel_rfl) (by kernel_rfl) (fun _ _ _ h => h) trivial (Or.inl ⟨by rfl, fun w hSw => ?_⟩) ?_
            rotate_left
            · go_simp
              try with_reducible rfl
            simp only [Act.put, List.setIfInBounds_toArray, List.set_cons_zero, List.set_cons_succ]
            refine wpT_one (i := 21) (by kernel_rfl) rfl (fun K hK => ?_)
            go_simp
            refine hK.out _ ((W2).alloc (.cells #[.int .i64 kd, .int .i64 kk, .int .u32 ((k : Int) * 53 % 2100), .int .i64 ((k : Int) * 30 % 1100), .int .u8 (k : Int)] 26)) trivial ?_
            clear hK K
            refine wpT_one (i := 22) (by kernel_rfl) rfl (fun K hK => ?_)
            refine step_append_go rfl (.tmp 12) (.tmp 33) 22 22 rfl _ _ rfl rfl RB.out ?_
            simp only [Act.put, List.setIfInBounds_toArray, List.set_cons_zero, List.set_cons_succ]
            refine hK.out _ _ trivial ?_
            clear hK K
            refine wpT_last (by kernel_rfl) rfl (by kernel_rfl) (fun K hK => ?_)
            go_simp
            refine hK.out _ _ ?_
            clear hK K
            go_wp2_with fail
            go_roundw
            case rel => exact ⟨k + 1, _, by omega, by go_num, ob, HN.out, bb⟩
            case measure => simp [intOf]; omega
          · go_simp
            refine hK.out _ (W2) trivial ?_
            clear hK K
            refine wpT_one (i := 5) (by kernel_rfl) rfl (fun K hK => ?_)
            go_simp
            refine hK.out _ (W2) trivial ?_
            clear hK K
            refine wpT_take (i := 20) (v := ?_) rfl (by kernel_rfl) (by kernel_rfl) (by kernel_rfl) (by kernel_rfl) (fun _ _ _ h => h) trivial (Or.inl ⟨by rfl, fun w hSw => ?_⟩) ?_
            rotate_left
            · go_simp
              try with_reducible rfl
            simp only [Act.put, List.setIfInBounds_toArray, List.set_cons_zero, List.set_cons_succ]
            refine wpT_one (i := 21) (by kernel_rfl) rfl (fun K hK => ?_)
            go_simp
            refine hK.out _ ((W2).alloc (.cells #[.int .i64 kd, .int .i64 kk, .int .u32 ((k : Int) * 53 % 2100), .int .i64 ((k : Int) * 30 % 1100), .int .u8 (k : Int)] 26)) trivial ?_
            clear hK K
            refine wpT_one (i := 22) (by kernel_rfl) rfl (fun K hK => ?_)
            refine step_append_go rfl (.tmp 12) (.tmp 33) 22 22 rfl _ _ rfl rfl RB.out ?_
            simp only [Act.put, List.setIfInBounds_toArray, List.set_cons_zero, List.set_cons_succ]
            refine hK.out _ _ trivial ?_
            clear hK K
            refine wpT_last (by kernel_rfl) rfl (by kernel_rfl) (fun K hK => ?_)
            go_simp
            refine hK.out _ _ ?_
            clear hK K
            go_wp2_with fail
            go_roundw
            case rel => exact ⟨k + 1, _, by omega, by go_num, ob, HN.out, bb⟩
            case measure => simp [intOf]; omega
        · go_simp
          refine hK.out _ (W1) trivial ?_
          clear hK K
          refine wpT_one (i := 1) (by kernel_rfl) rfl (fun K hK => ?_)
          go_simp
          refine hK.out _ (W1.alloc (.cells #[.int .i64 5, .int .i64 0, .int .i64 1, .int .i64 0, .int .i64 1, .int .i64 4, .int .i64 3, .int .i64 2] 3)) trivial ?_
          clear hK K
          generalize W1.alloc (.cells #[.int .i64 5, .int .i64 0, .int .i64 1, .int .i64 0, .int .i64 1, .int .i64 4, .int .i64 3, .int .i64 2] 3) = W2 at b2 b3 RB y2 ⊢
          refine wpT_take (i := 4) (v := ?_) rfl (by kernel_rfl) (by kernel_rfl) (by kernel_rfl) (by kernel_rfl) (fun _ _ _ h => h) trivial (Or.inl ⟨by rfl, fun w hSw => ?_⟩) ?_
          rotate_left
          · go_simp
            try with_reducible rfl
          simp only [Act.put, List.setIfInBounds_toArray, List.set_cons_zero, List.set_cons_succ]
          refine wpT_one (i := 5) (by kernel_rfl) rfl (fun K hK => ?_)
          go_simp
          refine hK.out _ (W2) trivial ?_
          clear hK K
          refine wpT_take (i := 20) (v := ?_) rfl (by kernel_rfl) (by kernel_rfl) (by kernel_rfl) (by kernel_rfl) (fun _ _ _ h => h) trivial (Or.inl ⟨by rfl, fun w hSw => ?_⟩) ?_
          rotate_left
          · go_simp
            try with_reducible rfl
          simp only [Act.put, List.setIfInBounds_toArray, List.set_cons_zero, List.set_cons_succ]
          refine wpT_one (i := 21) (by kernel_rfl) rfl (fun K hK => ?_)
          go_simp
          refine hK.out _ ((W2).alloc (.cells #[.int .i64 kd, .int .i64 kk, .int .u32 ((k : Int) * 53 % 2100), .int .i64 ((k : Int) * 30 % 1100), .int .u8 (k : Int)] 26)) trivial ?_
          clear hK K
          refine wpT_one (i := 22) (by kernel_rfl) rfl (fun K hK => ?_)
          refine step_append_go rfl (.tmp 12) (.tmp 33) 22 22 rfl _ _ rfl rfl RB.out ?_
          simp only [Act.put, List.setIfInBounds_toArray, List.set_cons_zero, List.set_cons_succ]
          refine hK.out _ _ trivial ?_
          clear hK K
          refine wpT_last (by kernel_rfl) rfl (by kernel_rfl) (fun K hK => ?_)
          go_simp
          refine hK.out _ _ ?_
          clear hK K
          go_wp2_with fail
          go_roundw
          case rel => exact ⟨k + 1, _, by omega, by go_num, ob, HN.out, bb⟩
          case measure => simp [intOf]; omega
    · have hk80 : 80 ≤ k := by omega
      have hkI : ¬ (k : Int) < 80 := by omega
      obtain ⟨a, cap, rfl, hA⟩ := asks_made (by omega) hown hE
      have HA := Lib.hid hA
      clear hA hown hE hlt
      go_wp2_with fail
      have HT0 : ∀ j, j < 24 → (wr.alloc (.cells #[.int .u32 0, .int .u32 10, .int .u32 30, .int .u32 10, .int .u32 0, .int .u32 30, .int .u32 2040, .int .u32 0, .int .u32 8, .int .u32 2040, .int .u32 0, .int .u32 9, .int .u32 0, .int .u32 2040, .int .u32 9, .int .u32 0, .int .u32 0, .int .u32 5000, .int .u32 4294967280, .int .u32 0, .int .u32 4, .int .u32 5, .int .u32 5, .int .u32 0] 27)).cell? ⟨wr.heap.size, j, none⟩ = some (.int .u32 (trL.getD j 0)) := fun j hj => lit_at .u32 wr trL _ _ rfl j hj
      have HT := Lib.hid HT0
      have hb1 : Below wr.heap.size wr (wr.alloc (.cells #[.int .u32 0, .int .u32 10, .int .u32 30, .int .u32 10, .int .u32 0, .int .u32 30, .int .u32 2040, .int .u32 0, .int .u32 8, .int .u32 2040, .int .u32 0, .int .u32 9, .int .u32 0, .int .u32 2040, .int .u32 9, .int .u32 0, .int .u32 0, .int .u32 5000, .int .u32 4294967280, .int .u32 0, .int .u32 4, .int .u32 5, .int .u32 5, .int .u32 0] 27)) := (Below.refl _ _).alloc (Nat.le_refl _) _
      have hG : wr.heap.size < (wr.alloc (.cells #[.int .u32 0, .int .u32 10, .int .u32 30, .int .u32 10, .int .u32 0, .int .u32 30, .int .u32 2040, .int .u32 0, .int .u32 8, .int .u32 2040, .int .u32 0, .int .u32 9, .int .u32 0, .int .u32 2040, .int .u32 9, .int .u32 0, .int .u32 0, .int .u32 5000, .int .u32 4294967280, .int .u32 0, .int .u32 4, .int .u32 5, .int .u32 5, .int .u32 0] 27)).heap.size := by simp
      generalize wr.alloc (.cells #[.int .u32 0, .int .u32 10, .int .u32 30, .int .u32 10, .int .u32 0, .int .u32 30, .int .u32 2040, .int .u32 0, .int .u32 8, .int .u32 2040, .int .u32 0, .int .u32 9, .int .u32 0, .int .u32 2040, .int .u32 9, .int .u32 0, .int .u32 0, .int .u32 5000, .int .u32 4294967280, .int .u32 0, .int .u32 4, .int .u32 5, .int .u32 5, .int .u32 0] 27) = W1 at HT hb1 hG ⊢
      have HBF : Hid (∀ w', Below W1.heap.size W1 w' → Below w.heap.size w w') := Lib.hid fun w' h => hB.trans ((hb1.trans (h.mono hb1.size)).mono hB.size)
      have HAF : Hid (∀ w', Below W1.heap.size W1 w' → Asks w' w'.heap.size a k) := Lib.hid fun w' h => asks_below HA.out (hb1.trans (h.mono hb1.size))
      clear hB hb1 HA
      generalize hGe : wr.heap.size = G at HT hG ⊢
      have HGe := Lib.hid hGe
      clear hGe HT0
      go_loopw [45] (fun s w3 => ∃ i : Nat, i ≤ 8 ∧ s = .int .i64 i ∧ Below W1.heap.size W1 w3) (fun s _ => 8 - (intOf s).toNat)
      case atStart => exact ⟨0, by omega, rfl, Below.refl _ _⟩
      case round =>
        obtain ⟨i, hi, rfl, hb3⟩ := hrel
        by_cases hlt : i < 8
        · have hltI : (i : Int) < 8 := by omega
          have q0 := (hb3.cell (p := ⟨G, i * 3, none⟩) hG).trans (HT.out (i * 3) (by omega))
          have q1 := (hb3.cell (p := ⟨G, i * 3 + 1, none⟩) hG).trans (HT.out (i * 3 + 1) (by omega))
          have q2 := (hb3.cell (p := ⟨G, i * 3 + 2, none⟩) hG).trans (HT.out (i * 3 + 2) (by omega))
          have ra := tr_rng (i * 3) (by omega)
          have rb := tr_rng (i * 3 + 1) (by omega)
          have rc := tr_rng (i * 3 + 2) (by omega)
          generalize trL.getD (i * 3) 0 = a1 at q0 ra
          generalize trL.getD (i * 3 + 1) 0 = b1 at q1 rb
          generalize trL.getD (i * 3 + 2) 0 = c1 at q2 rc
          have HR := Lib.hid (tri_rng ra rb rc)
          clear ra rb rc
          go_wp2_with fail
          have hz4 : (wr.alloc (.cells #[.int .u32 a1, .int .u32 b1, .int .u32 c1] 27)).rowIs wr.heap.size 27 3 (fun j => .int .u32 (tri a1 b1 c1 j)) := World.rowIs_alloc wr _ _ _ fun i hi => by
            have : i = 0 ∨ i = 1 ∨ i = 2 := by have : i < 3 := hi; omega
            rcases this with rfl | rfl | rfl <;> rfl
          have hb4 : Below W1.heap.size W1 (wr.alloc (.cells #[.int .u32 a1, .int .u32 b1, .int .u32 c1] 27)) := hb3.alloc hb3.size _
          clear q0 q1 q2 hb3
          generalize wr.alloc (.cells #[.int .u32 a1, .int .u32 b1, .int .u32 c1] 27) = W4 at hz4 hb4 ⊢
          generalize wr.heap.size = Z at hz4 ⊢
          go_loopw [5, 6] (fun v s w5 => ∃ (n : Nat) (EL : Nat → Nat → Value), n ≤ 40 ∧ s = .int .i64 n ∧ w5.ownsRow W4.heap.size 26 5 v n (cells5 EL n) ∧ (∀ i, i < n → OkE (EL i)) ∧ Below W4.heap.size W4 w5) (fun _ s _ => 40 - (intOf s).toNat)
          case atStart => exact ⟨0, fun _ _ => .bool false, by omega, rfl, World.ownsRow_nil _ _ _ _, fun i hi => absurd hi (by omega), Below.refl _ _⟩
          case round =>
            obtain ⟨n, EL, hn, rfl, hown, hE, hb5⟩ := hrel
            by_cases hlt : n < 40
            · have hltI : (n : Int) < 40 := by omega
              obtain ⟨va, wa, ra, oa, ba⟩ := app_ask (W := wr) (X := wr.heap.size) 5 0 (n : Int) 0 ((n : Int) + 1) (by omega) hown (Below.refl _ _) rfl hb5
              have RA := Lib.hid ra
              have HN := Lib.hid (ok_snoc hE (ok_lit 5 0 (n : Int) 0 ((n : Int) + 1) (by omega)))
              clear ra hown hE
              go_wp2_with (at_builtin; refine wpList_append_go rfl (.tmp 53) (.tmp 60) 22 22 rfl _ _ rfl rfl RA.out ?_)
              go_roundw
              case rel => exact ⟨n + 1, _, by omega, by go_num, oa, HN.out, ba⟩
              case measure => simp [intOf]; omega
            · have hge : ¬ (n : Int) < 40 := by omega
              clear hlt
              go_wp2_with fail
              go_loopw [5, 7] (fun v s w6 => ∃ (q : Nat) (EL : Nat → Nat → Value), q ≤ 3 ∧ s = .int .i64 q ∧ w6.ownsRow W4.heap.size 26 5 v (n + q) (cells5 EL (n + q)) ∧ (∀ i, i < n + q → OkE (EL i)) ∧ Below W4.heap.size W4 w6) (fun _ s _ => 3 - (intOf s).toNat)
              case atStart => exact ⟨0, EL, by omega, rfl, hown, hE, hb5⟩
              case round =>
                clear hown hE hb5
                obtain ⟨q, EL, hq, rfl, hown, hE, hb6⟩ := hrel
                by_cases hlt : q < 3
                · have hltI : (q : Int) < 3 := by omega
                  have cz : wr.cell? ⟨Z, q, none⟩ = some (.int .u32 (tri a1 b1 c1 q)) := (hb6.cell (p := ⟨Z, q, none⟩) hz4.lt).trans (hz4.cell (i := q) hlt)
                  have hr := HR.out q
                  obtain ⟨va, wa, ra, oa, ba⟩ := app_ask (W := wr) (X := wr.heap.size) 0 (q : Int) (tri a1 b1 c1 q) 0 0 (by omega) hown (Below.refl _ _) rfl hb6
                  have RA := Lib.hid ra
                  have HN := Lib.hid (ok_snoc hE (ok_lit 0 (q : Int) (tri a1 b1 c1 q) 0 0 (by omega)))
                  generalize tri a1 b1 c1 q = y1 at cz RA HN oa
                  clear ra hown hE hr
                  go_wp2_with (at_builtin; refine wpList_append_go rfl (.tmp 66) (.tmp 72) 22 22 rfl _ _ rfl rfl RA.out ?_)
                  go_roundw
                  case rel => exact ⟨q + 1, _, by omega, by go_num, oa, HN.out, ba⟩
                  case measure => simp [intOf]; omega
                · have hge2 : ¬ (q : Int) < 3 := by omega
                  obtain ⟨va, wa, ra, oa, ba⟩ := app_many (W := wr) (X := wr.heap.size) last8 (n := 8) (by omega) (by omega) rfl (by decide) hown (Below.refl _ _) rfl hb6
                  obtain ⟨E2, he2, hE2⟩ := last_ok hE
                  rw [he2] at oa
                  obtain ⟨b, bcap, rfl, hA2⟩ := asks_made (by omega) oa hE2
                  have RA := Lib.hid ra
                  have HA2 := Lib.hid hA2
                  clear ra hown hE hlt oa he2 hE2 hA2
                  go_wp2_with (at_builtin; refine wpList_append_go rfl (.tmp 74) (.tmp 83) 22 22 rfl _ _ rfl rfl RA.out ?_)
                  with_reducible refine (play_any _ _ _ false _ HA2 (by omega)).mono ?_
                  rintro e w7 ⟨rfl, hb7⟩
                  have hb47 := hb4.trans ((ba.trans (hb7.mono ba.size)).mono hb4.size)
                  go_wp2_with fail
                  go_roundw
                  case rel => exact ⟨i + 1, by omega, by go_num, hb47⟩
                  case measure => simp [intOf]; omega
        · have hge : ¬ (i : Int) < 8 := by omega
          have HA1 := Lib.hid (HAF.out _ hb3)
          clear hlt
          go_wp2_with fail
          with_reducible refine (play_any _ _ _ false _ HA1 (by omega)).mono ?_
          rintro e w7 ⟨rfl, hb7⟩
          have h7 := hb3.trans (hb7.mono hb3.size)
          have HA2 := Lib.hid (HAF.out _ h7)
          go_wp2_with fail
          with_reducible refine (play_any _ _ _ true _ HA2 (by omega)).mono ?_
          rintro e w8 ⟨rfl, hb8⟩
          have h8 := h7.trans (hb8.mono h7.size)
          go_wp2_with fail
          with_reducible refine (known_any w8).mono ?_
          rintro e w9 ⟨rfl, hb9⟩
          have h9 := h8.trans (hb9.mono h8.size)
          go_wp2
          go_ret
          exact ⟨rfl, HBF.out _ h9⟩
end Go.Proofs.Ytamaonkepfkgnaa
