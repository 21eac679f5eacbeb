/-
  Chapter 15: the document's bus: Word of the uart where a byte came; Word of every device.
-/
import Derived.Test.YtkfedihaldpgmaaGreatBq15
namespace Go.Proofs.YtkfedihaldpgmaaGreat
open Go.RowKit
set_option linter.unusedVariables false
set_option linter.unusedSimpArgs false
section
variable {w w' : World} {m r y : Nat} {O : Nat → Prop} {p n : Nat} {V : SV} {S : BS}
set_option maxRecDepth 100000 in
set_option maxHeartbeats 4000000 in
theorem bword_3c (k : Nat) (now : Int) (b : Int) {L : List Int} (h : Bx w m r y O p n V S) (hk : k ≤ 15) (hq : S.came = b :: L) (hgl : S.goes.length ≤ 16) (hcl : S.came.length ≤ 16) :
    Calls Tryz.prog 28 #[.pointer (some ⟨m, 0, none⟩), .int .i64 3, .int .u32 ((k : Int) * 4), .int .i64 now] w (WordsR 3 k now w m r y O p n V S) := by
  have hml := h.wb.st.lt
  have hoc := h.oc
  rw [hq] at hoc
  obtain ⟨g, c, x1, hv, hcc, hc0, hs1, hby⟩ := tail_by hoc
  have hbb : 0 ≤ b ∧ b ≤ 255 := hoc.2 b (by simp)
  have hgl2 : g < w.heap.size := hoc.lt g (by rw [hv]; rfl)
  obtain ⟨ng, HNG⟩ : ∃ ng, Hid (L.length + 1 = ng) := ⟨_, rfl⟩
  have hcl2 : L.length ≤ 15 := by have := hcl; rw [hq] at this; simp at this; omega
  have HCL := Lib.hid hcl2
  have b9 : w.cell? ⟨m, 9, none⟩ = some (.slice (some ⟨g, 0, none⟩) ng c) := by have := h.b9; rw [hv, HNG.out] at this; exact this
  rw [hv, HNG.out] at hs1
  rw [HNG.out] at hcc
  have HS1 := Lib.hid hs1
  have HV := Lib.hid hv
  have hcI : (ng : Int) ≤ c := by omega
  have hlI : (0 : Int) < (ng : Int) := by have := HNG.out; omega
  have hlN : 0 < ng := by have := HNG.out; omega
  have hb256 : (b : Int) < 4294967296 := by omega
  have hb0' : 0 ≤ b := hbb.1
  have HBB := Lib.hid hbb
  clear hv hoc hby hs1 hcc hcl hcl2 hbb
  obtain ⟨A2, c2, hv2, hz2⟩ := h.og.form
  clear hz2
  obtain ⟨N2, HN2⟩ : ∃ N2, Hid (S.goes.length = N2) := ⟨_, rfl⟩
  have b10 : w.cell? ⟨m, 10, none⟩ = some (.slice A2 N2 c2) := by have := h.b10; rw [hv2, HN2.out] at this; exact this
  have b11 := h.b11
  have b12 := h.b12
  have HQ := Lib.hid hq
  have HGL := Lib.hid hgl
  clear hv2 hq hgl
  have hcw : (w.alloc (.cells #[] 27)).cell? ⟨g, 0, none⟩ = some (.int .u8 b) := (World.cell?_alloc_past _ _ _ hgl2).trans hc0
  go_enter Tryz.func28, Tryz.ntmps28
  go_wp2_with fail
  have hb0 : Below w.heap.size w (w.alloc (.cells #[] 27)) := (Below.refl _ _).alloc (Nat.le_refl _) _
  have h0 := h.below hb0
  have z9 : (w.alloc (.cells #[] 27)).drew.cell? ⟨m, 9, none⟩ = some (.slice (some ⟨g, 0, none⟩) ng c) := (World.cell?_alloc_past _ _ _ hml).trans b9
  have z10 : (w.alloc (.cells #[] 27)).drew.cell? ⟨m, 10, none⟩ = some (.slice A2 N2 c2) := (World.cell?_alloc_past _ _ _ hml).trans b10
  have z11 : (w.alloc (.cells #[] 27)).drew.cell? ⟨m, 11, none⟩ = some (.bool S.lost) := (World.cell?_alloc_past _ _ _ hml).trans b11
  have z12 : (w.alloc (.cells #[] 27)).drew.cell? ⟨m, 12, none⟩ = some (.int .u32 S.uc) := (World.cell?_alloc_past _ _ _ hml).trans b12
  have hm1 : m < (w.alloc (.cells #[] 27)).drew.heap.size := h0.wb.st.lt
  obtain ⟨W1, hW1⟩ : ∃ W1, w.alloc (.cells #[] 27) = W1 := ⟨_, rfl⟩
  rw [hW1] at z9 z10 z11 z12 hm1 h0 hb0 ⊢
  clear b9 b10 b11 b12 hW1 hc0 hgl2 hcw
  go_region_held3 (fun w' => w'.cell? ⟨m, 9, none⟩ = some (.slice (some ⟨g, 0, none⟩) ng c) ∧ w'.cell? ⟨m, 10, none⟩ = some (.slice A2 N2 c2) ∧ w'.cell? ⟨m, 11, none⟩ = some (.bool S.lost) ∧ w'.cell? ⟨m, 12, none⟩ = some (.int .u32 S.uc)) (first | with_reducible exact ⟨z9, z10, z11, z12⟩ | exact ⟨(World.cell?_alloc_past _ _ _ hm1).trans z9, (World.cell?_alloc_past _ _ _ hm1).trans z10, (World.cell?_alloc_past _ _ _ hm1).trans z11, (World.cell?_alloc_past _ _ _ hm1).trans z12⟩)
    (first
      | (go_at_call 64; (with_reducible refine (bit0 _ _).mono ?_); rintro e w4 ⟨rfl, rfl⟩)
      | (go_at_call 64; (with_reducible refine (bit1 _ _).mono ?_); rintro e w4 ⟨rfl, rfl⟩)
      | (go_at_call 64; (with_reducible refine (bit2 _ _).mono ?_); rintro e w4 ⟨rfl, rfl⟩)
      | (go_at_call 64; (with_reducible refine (bit3 _ _).mono ?_); rintro e w4 ⟨rfl, rfl⟩))
  obtain ⟨sv, hsv⟩ : ∃ sv, bits .or .u32 (bits .or .u32 (bits .or .u32 (bI true 1) (bI (decide ((16 : Int) ≤ (N2 : Int))) 2)) (bI S.lost 4)) (bI ((N2 : Int) == 0) 8) = sv := ⟨_, rfl⟩
  have hst : stW S = sv := by
    rw [← hsv]
    unfold stW
    rw [HN2.out, HQ.out]
    exact (st_eq (N1 := (b :: L : List Int).length) (cb := true) (by simp) (HN2.out ▸ HGL.out) S.lost).symm
  try rw [hsv]
  obtain ⟨W2, X, hW2, hX⟩ : ∃ W2 X, (W1.alloc (.cells #[.int .u32 b, .int .u32 sv, .int .u32 S.uc] 27)).drew = W2 ∧ W1.heap.size = X := ⟨_, _, rfl, rfl⟩
  have hb2 : Below W1.heap.size W1 W2 := by rw [← hW2]; exact ((Below.refl _ _).alloc (Nat.le_refl _) _).drew
  have hr : W2.rowIs X 27 3 (fun i => .int .u32 (wordX 3 i now S)) := by
    rw [← hW2, ← hX]
    refine World.rowIs_alloc W1 #[.int .u32 b, .int .u32 sv, .int .u32 S.uc] _ _ fun i hi => ?_
    have : i = 0 ∨ i = 1 ∨ i = 2 := by have : i < 3 := hi; omega
    rcases this with rfl | rfl | rfl
    · show some (Value.int .u32 b) = some (Value.int .u32 (match S.came with | [] => 256 | b :: _ => b))
      rw [HQ.out]
    · show some (Value.int .u32 sv) = some (Value.int .u32 (stW S))
      rw [hst]
    · rfl
  have h2 := h0.below hb2
  have hC := (CB.of_below (m := m) (O := O) (V := V) hb0).trans (CB.of_below (m := m) (O := O) (V := V) hb2)
  have y9 : W2.cell? ⟨m, 9, none⟩ = some (.slice (some ⟨g, 0, none⟩) ng c) := by rw [← hW2]; exact (World.cell?_alloc_past _ _ _ hm1).trans z9
  have hXm0 : ¬ X = m := by rw [← hX]; have := h0.wb.st.lt; omega
  rw [hW2, hX]
  clear hW2 hX z9 z10 z11 z12 hm1 hb2 hsv hst hml
  have hkx : 0 ≤ (k : Int) := by omega
  by_cases hkn : k < 3
  · have HD : Hid (decide (k < wordsN 3) = true) := Lib.hid (decide_eq_true hkn)
    have hkI : (k : Int) < 3 := by omega
    by_cases hk0 : k = 0
    · subst hk0
      have q := hr.cell (i := 0) (by omega)
      have HRX : Hid (readX 3 0 S = { S with came := L }) := by
        show readU 0 S = _
        unfold readU
        rw [HQ.out]
        rfl
      have hog3 : Ob W2 V.c (b :: L) := HQ.out ▸ h2.oc
      obtain ⟨g3, c3, x3, hv3, _, _, hs3, hby3⟩ := tail_by hog3
      have e3 : x1 = x3 := by
        have a1 := HS1.out W2
        have a2 := hs3 W2
        rw [HV.out, HNG.out, a1] at a2
        injection a2
      subst e3
      have bl0 : Below W2.heap.size W2 (W2.alloc (.cells #[] 5)) := (Below.refl _ _).alloc (Nat.le_refl _) _
      have hown : (W2.alloc (.cells #[] 5)).ownsRow W2.heap.size 5 1 (.slice (some ⟨W2.heap.size, 0, none⟩) 0 0) 0 [] := World.ownsRow_lit W2 #[] 0 (Nat.le_refl _) (by unfold maxLen; omega) rfl
      have hby4 := hby3.fr (Fr.of_below (S := fun _ => False) bl0) (fun _ _ _ => id)
      obtain ⟨va, wa, ra, oa, ba, sa⟩ := app_bys (L := L) 24 hown hby4 bl0.size (by have := HCL.out; omega)
      have hba : Below W2.heap.size W2 wa := ba W2 bl0
      have hoba : Ob wa va L := ⟨own_le oa (Nat.zero_le _), fun u hu => hog3.2 u (List.mem_cons_of_mem _ hu)⟩
      have hnew : ∀ k, va.ownBlock = some k → W2.heap.size ≤ k := fun k hk => (World.ownsRow.lt oa k hk).1
      obtain ⟨h5, hC5⟩ := h2.newC hba hoba hnew
      obtain ⟨gA, gc, rfl, hz1, hz2⟩ := own_form oa
      clear hz1 hz2
      have c9 : (W2.alloc (.cells #[] 5)).cell? ⟨m, 9, none⟩ = some (.slice (some ⟨g, 0, none⟩) ng c) := by
        have := (h2.below bl0).b9
        rw [HV.out, HNG.out] at this
        exact this
      have d9 : wa.cell? ⟨m, 9, none⟩ = some (.slice (some ⟨g, 0, none⟩) ng c) := by
        have := (h2.below hba).b9
        rw [HV.out, HNG.out] at this
        exact this
      have z9 : wa.frozen? ⟨m, 9, none⟩ = false := (h2.below hba).wb.st.frozen 9
      have hms : m < wa.heap.size := (h2.below hba).wb.st.lt
      have hm2 : m < W2.heap.size := h2.wb.st.lt
      have hXm : ¬ X = m := hXm0
      have hra : wa.rowIs X 27 3 (fun i => .int .u32 (wordX 3 i now S)) := hr.of_block (hba.block _ hr.lt)
      have qa : wa.cell? ⟨X, 0, none⟩ = some (.int .u32 (wordX 3 0 now S)) := hra.cell (i := 0) (by omega)
      have qb : (wa.setCell ⟨m, 9, none⟩ (.slice gA L.length gc)).cell? ⟨X, 0, none⟩ = some (.int .u32 (wordX 3 0 now S)) := cell_fr ((Fr.refl (fun k => k = m) wa).setCell (x := ⟨m, 9, none⟩) (.inl rfl) _) qa hXm
      have RA := Lib.hid ra
      have hs1 := HS1.out
      have H5 := Lib.hid h5
      have HC5 := Lib.hid (hC.trans hC5)
      clear ra oa ba sa hba hoba hnew hown hby4 hby3 hs3 hog3 h5 hC5 hv3 hr hra hk bl0
      go_wp2_with (at_builtin; refine wpList_append_go rfl (.tmp 180) (.tmp 186) 24 24 rfl _ _ rfl rfl RA.out ?_)
      go_ret2
      exact ⟨by rw [HD.out]; rfl, _, by rw [HRX.out]; exact H5.out, HC5.out⟩
    · have q := hr.cell (i := k) hkn
      have HRX : Hid (readX 3 k S = S) := by
        show _ = _
        obtain ⟨j, rfl⟩ : ∃ j, k = j + 1 := ⟨k - 1, by omega⟩
        rfl
      have hkb : ((k : Int) * 4 == 0) = false := beq_false_of_ne (by omega)
      have hkc : ¬ (k : Int) = 0 := by omega
      clear hr hk
      go_wp2
      go_ret2
      exact ⟨by rw [HD.out]; rfl, V, by rw [HRX.out]; exact h2, hC⟩
  · have HD : Hid (decide (k < wordsN 3) = false) := Lib.hid (decide_eq_false hkn)
    have HX : Hid (wordX 3 k now S = 0) := by
      show _ = _
      obtain ⟨j, rfl⟩ : ∃ j, k = j + 3 := ⟨k - 3, by omega⟩
      rfl
    have HRX : Hid (readX 3 k S = S) := by
      show _ = _
      obtain ⟨j, rfl⟩ : ∃ j, k = j + 3 := ⟨k - 3, by omega⟩
      rfl
    have hkI : (3 : Int) ≤ (k : Int) := by omega
    have hkM : (k : Int) < 4294967296 := by omega
    clear hr hk
    go_wp2
    go_ret2
    exact ⟨by rw [HD.out, HX.out]; rfl, V, by rw [HRX.out]; exact h2, hC⟩
theorem bword_any (d k : Nat) (now : Int) (h : Bx w m r y O p n V S) (hd : d < 6) (hk : k ≤ 15) (hcl : S.came.length ≤ 16) (hgl : S.goes.length ≤ 16) (n0 : 0 ≤ now) (n1 : now ≤ 4611686018427387000) :
    Calls Tryz.prog 28 #[.pointer (some ⟨m, 0, none⟩), .int .i64 d, .int .u32 ((k : Int) * 4), .int .i64 now] w (WordsR d k now w m r y O p n V S) := by
  match d, hd with
  | 0, _ => exact bword_0 k now h hk n0 n1
  | 1, _ => exact bword_1 k now h hk n0 n1
  | 2, _ => exact bword_2 k now h hk n0 n1
  | 3, _ =>
    match hq : S.came with
    | [] => exact bword_3n k now h hk hq hgl
    | b :: L => exact bword_3c k now b h hk hq hgl hcl
  | 4, _ => exact bword_4 k now h hk n0 n1
  | 5, _ => exact bword_5 k now h hk n0 n1
end
end Go.Proofs.YtkfedihaldpgmaaGreat
