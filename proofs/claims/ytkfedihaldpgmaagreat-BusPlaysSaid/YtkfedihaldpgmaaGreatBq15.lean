/-
  Chapter 15: the document's bus: Word of the uart, in the one state.
-/
import Derived.Test.YtkfedihaldpgmaaGreatBw15
import Derived.Deep.RegionHeld3
namespace Go.Proofs.YtkfedihaldpgmaaGreat
open Go.RowKit
set_option linter.unusedVariables false
set_option linter.unusedSimpArgs false
theorem bit_any (b : Bool) (n v : Int) (hn : n = 0 ∧ v = 1 ∨ n = 1 ∧ v = 2 ∨ n = 2 ∧ v = 4 ∨ n = 3 ∧ v = 8) (w : World) :
    Calls Tryz.prog 64 #[.bool b, .int .u64 n] w fun e w' => e = .returned (.int .u32 (bI b v)) ∧ w = w' := by
  rcases hn with ⟨rfl, rfl⟩ | ⟨rfl, rfl⟩ | ⟨rfl, rfl⟩ | ⟨rfl, rfl⟩
  all_goals
    cases b
    all_goals
      go_enter Tryz.func64, Tryz.ntmps64
      go_wp2
      go_ret
      exact ⟨rfl, rfl⟩
theorem bit0 (b : Bool) (w : World) : Calls Tryz.prog 64 #[.bool b, .int .u64 0] w fun e w' => e = .returned (.int .u32 (bI b 1)) ∧ w = w' := bit_any b 0 1 (by omega) w
theorem bit1 (b : Bool) (w : World) : Calls Tryz.prog 64 #[.bool b, .int .u64 1] w fun e w' => e = .returned (.int .u32 (bI b 2)) ∧ w = w' := bit_any b 1 2 (by omega) w
theorem bit2 (b : Bool) (w : World) : Calls Tryz.prog 64 #[.bool b, .int .u64 2] w fun e w' => e = .returned (.int .u32 (bI b 4)) ∧ w = w' := bit_any b 2 4 (by omega) w
theorem bit3 (b : Bool) (w : World) : Calls Tryz.prog 64 #[.bool b, .int .u64 3] w fun e w' => e = .returned (.int .u32 (bI b 8)) ∧ w = w' := bit_any b 3 8 (by omega) w
theorem or_st (c f l e : Bool) : bits .or .u32 (bits .or .u32 (bits .or .u32 (bI c 1) (bI f 2)) (bI l 4)) (bI e 8) = stU c f l e := by cases c <;> cases f <;> cases l <;> cases e <;> rfl
section
variable {w w' : World} {m r y : Nat} {O : Nat → Prop} {p n : Nat} {V : SV} {S : BS}
/-- what came is another list, in new memory -/
theorem Bx.newC (h : Bx w m r y O p n V S) {v : Value} {L : List Int} {wb : World} (hbw : Below w.heap.size w wb) (hv : Ob wb v L) (hnew : ∀ k, v.ownBlock = some k → w.heap.size ≤ k) :
    Bx (wb.setCell ⟨m, 9, none⟩ v) m r y O p n { V with c := v } { S with came := L } ∧ CB m O V { V with c := v } w (wb.setCell ⟨m, 9, none⟩ v) :=
  ⟨(h.below hbw).setCm hv (fun k hk e => by have := h.lt k e; have := hnew k hk; omega), CB.setG m O V w wb 9 v _ (Fr.of_below hbw) (fun k ⟨i, hi, hk⟩ => by
    match i, hi with
    | 0, _ => exact .inl ⟨0, by omega, hk⟩
    | 1, _ => exact .inl ⟨1, by omega, hk⟩
    | 2, _ => exact .inr (hnew k hk)
    | 3, _ => exact .inl ⟨3, by omega, hk⟩
    | 4, _ => exact .inl ⟨4, by omega, hk⟩
    | 5, _ => exact .inl ⟨5, by omega, hk⟩)⟩
theorem st_eq {N1 N2 : Nat} {cb : Bool} (hc : cb = decide (0 < N1)) (hg : N2 ≤ 16) (l : Bool) : bits .or .u32 (bits .or .u32 (bits .or .u32 (bI cb 1) (bI (decide ((16 : Int) ≤ (N2 : Int))) 2)) (bI l 4)) (bI ((N2 : Int) == 0) 8) = stU (decide (0 < N1)) (decide (N2 = 16)) l (decide (N2 = 0)) := by
  rw [or_st, hc]
  congr 1
  · rw [decide_eq_decide]; omega
  · by_cases h : N2 = 0
    · subst h; rfl
    · rw [decide_eq_false h]; exact beq_false_of_ne (by omega)
set_option maxRecDepth 100000 in
set_option maxHeartbeats 4000000 in
theorem bword_3n (k : Nat) (now : Int) (h : Bx w m r y O p n V S) (hk : k ≤ 15) (hq : S.came = []) (hgl : S.goes.length ≤ 16) :
    Calls Tryz.prog 28 #[.pointer (some ⟨m, 0, none⟩), .int .i64 3, .int .u32 ((k : Int) * 4), .int .i64 now] w (WordsR 3 k now w m r y O p n V S) := by
  have hml := h.wb.st.lt
  obtain ⟨A, c, hv, hz⟩ := h.oc.form
  clear hz
  have b9 : w.cell? ⟨m, 9, none⟩ = some (.slice A 0 c) := by have := h.b9; rw [hv, hq] at this; exact this
  clear hv
  obtain ⟨A2, c2, hv2, hz2⟩ := h.og.form
  clear hz2
  obtain ⟨N2, HN2⟩ : ∃ N2, Hid (S.goes.length = N2) := ⟨_, rfl⟩
  have b10 : w.cell? ⟨m, 10, none⟩ = some (.slice A2 N2 c2) := by have := h.b10; rw [hv2, HN2.out] at this; exact this
  have b11 := h.b11
  have b12 := h.b12
  have HQ := Lib.hid hq
  have HGL := Lib.hid hgl
  clear hv2 hq hgl
  go_enter Tryz.func28, Tryz.ntmps28
  go_wp2_with fail
  have hb0 : Below w.heap.size w (w.alloc (.cells #[] 27)) := (Below.refl _ _).alloc (Nat.le_refl _) _
  have h0 := h.below hb0
  have z9 : (w.alloc (.cells #[] 27)).drew.cell? ⟨m, 9, none⟩ = some (.slice A 0 c) := (World.cell?_alloc_past _ _ _ hml).trans b9
  have z10 : (w.alloc (.cells #[] 27)).drew.cell? ⟨m, 10, none⟩ = some (.slice A2 N2 c2) := (World.cell?_alloc_past _ _ _ hml).trans b10
  have z11 : (w.alloc (.cells #[] 27)).drew.cell? ⟨m, 11, none⟩ = some (.bool S.lost) := (World.cell?_alloc_past _ _ _ hml).trans b11
  have z12 : (w.alloc (.cells #[] 27)).drew.cell? ⟨m, 12, none⟩ = some (.int .u32 S.uc) := (World.cell?_alloc_past _ _ _ hml).trans b12
  have hm1 : m < (w.alloc (.cells #[] 27)).drew.heap.size := h0.wb.st.lt
  obtain ⟨W1, hW1⟩ : ∃ W1, w.alloc (.cells #[] 27) = W1 := ⟨_, rfl⟩
  rw [hW1] at z9 z10 z11 z12 hm1 h0 hb0 ⊢
  clear b9 b10 b11 b12 hW1
  go_region_held3 (fun w' => w'.cell? ⟨m, 9, none⟩ = some (.slice A 0 c) ∧ w'.cell? ⟨m, 10, none⟩ = some (.slice A2 N2 c2) ∧ w'.cell? ⟨m, 11, none⟩ = some (.bool S.lost) ∧ w'.cell? ⟨m, 12, none⟩ = some (.int .u32 S.uc)) (first | with_reducible exact ⟨z9, z10, z11, z12⟩ | exact ⟨(World.cell?_alloc_past _ _ _ hm1).trans z9, (World.cell?_alloc_past _ _ _ hm1).trans z10, (World.cell?_alloc_past _ _ _ hm1).trans z11, (World.cell?_alloc_past _ _ _ hm1).trans z12⟩)
    (first
      | (go_at_call 64; (with_reducible refine (bit0 _ _).mono ?_); rintro e w4 ⟨rfl, rfl⟩)
      | (go_at_call 64; (with_reducible refine (bit1 _ _).mono ?_); rintro e w4 ⟨rfl, rfl⟩)
      | (go_at_call 64; (with_reducible refine (bit2 _ _).mono ?_); rintro e w4 ⟨rfl, rfl⟩)
      | (go_at_call 64; (with_reducible refine (bit3 _ _).mono ?_); rintro e w4 ⟨rfl, rfl⟩))
  obtain ⟨sv, hsv⟩ : ∃ sv, bits .or .u32 (bits .or .u32 (bits .or .u32 (bI false 1) (bI (decide ((16 : Int) ≤ (N2 : Int))) 2)) (bI S.lost 4)) (bI ((N2 : Int) == 0) 8) = sv := ⟨_, rfl⟩
  have hst : stW S = sv := by
    rw [← hsv]
    unfold stW
    rw [HN2.out, HQ.out]
    exact (st_eq (N1 := ([] : List Int).length) (cb := false) (by simp) (HN2.out ▸ HGL.out) S.lost).symm
  try rw [hsv]
  obtain ⟨W2, X, hW2, hX⟩ : ∃ W2 X, (W1.alloc (.cells #[.int .u32 256, .int .u32 sv, .int .u32 S.uc] 27)).drew = W2 ∧ W1.heap.size = X := ⟨_, _, rfl, rfl⟩
  have hb2 : Below W1.heap.size W1 W2 := by rw [← hW2]; exact ((Below.refl _ _).alloc (Nat.le_refl _) _).drew
  have hr : W2.rowIs X 27 3 (fun i => .int .u32 (wordX 3 i now S)) := by
    rw [← hW2, ← hX]
    refine World.rowIs_alloc W1 #[.int .u32 256, .int .u32 sv, .int .u32 S.uc] _ _ fun i hi => ?_
    have : i = 0 ∨ i = 1 ∨ i = 2 := by have : i < 3 := hi; omega
    rcases this with rfl | rfl | rfl
    · show some (Value.int .u32 256) = some (Value.int .u32 (match S.came with | [] => 256 | b :: _ => b))
      rw [HQ.out]
    · show some (Value.int .u32 sv) = some (Value.int .u32 (stW S))
      rw [hst]
    · rfl
  have h2 := h0.below hb2
  have hC := (CB.of_below (m := m) (O := O) (V := V) hb0).trans (CB.of_below (m := m) (O := O) (V := V) hb2)
  have y9 : W2.cell? ⟨m, 9, none⟩ = some (.slice A 0 c) := by rw [← hW2]; exact (World.cell?_alloc_past _ _ _ hm1).trans z9
  rw [hW2, hX]
  clear hW2 hX z9 z10 z11 z12 hm1 hb2 hsv hst hml
  by_cases hkn : k < 3
  · have q := hr.cell (i := k) hkn
    have HD : Hid (decide (k < wordsN 3) = true) := Lib.hid (decide_eq_true hkn)
    have HRX : Hid (readX 3 k S = S) := by
      show readU k S = S
      unfold readU
      split
      · rw [HQ.out]
      · rfl
    have hkI : (k : Int) < 3 := by omega
    clear hr hk
    by_cases hk0 : k = 0
    · subst hk0
      go_wp2
      go_ret2
      exact ⟨by rw [HD.out]; rfl, V, by rw [HRX.out]; exact h2, hC⟩
    · have hkb : ((k : Int) * 4 == 0) = false := beq_false_of_ne (by omega)
      have hkc : ¬ (k : Int) = 0 := by omega
      go_wp2
      go_ret2
      exact ⟨by rw [HD.out]; rfl, V, by rw [HRX.out]; exact h2, hC⟩
  · have HD : Hid (decide (k < wordsN 3) = false) := Lib.hid (decide_eq_false hkn)
    have HX : Hid (wordX 3 k now S = 0) := by
      show _ = _
      obtain ⟨j, rfl⟩ : ∃ j, k = j + 3 := ⟨k - 3, by omega⟩
      rfl
    have HRX : Hid (readX 3 k S = S) := by
      show _ = _
      obtain ⟨j, rfl⟩ : ∃ j, k = j + 3 := ⟨k - 3, by omega⟩
      rfl
    have hkI : (3 : Int) ≤ (k : Int) := by omega
    have hkM : (k : Int) < 4294967296 := by omega
    clear hr hk
    go_wp2
    go_ret2
    exact ⟨by rw [HD.out, HX.out]; rfl, V, by rw [HRX.out]; exact h2, hC⟩
end
end Go.Proofs.YtkfedihaldpgmaaGreat
