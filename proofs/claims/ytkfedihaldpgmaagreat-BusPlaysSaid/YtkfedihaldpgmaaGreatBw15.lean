/-
  Chapter 15: the document's bus: Word, in the one state.
-/
import Derived.Test.YtkfedihaldpgmaaGreatBc15
namespace Go.Proofs.YtkfedihaldpgmaaGreat
open Go.RowKit
set_option linter.unusedVariables false
set_option linter.unusedSimpArgs false
section
variable {w w' : World} {m r y : Nat} {O : Nat → Prop} {p n : Nat} {V : SV} {S : BS}
/-- it returns x and whether, and the bus stands as it was -/
def WordsR (d k : Nat) (now : Int) (w : World) (m r y : Nat) (O : Nat → Prop) (p n : Nat) (V : SV) (S : BS) (e : Ending) (w' : World) : Prop := RetN (.tuple #[.int .u32 (wordX d k now S), .bool (decide (k < wordsN d))]) w m r y O p n V (readX d k S) e w'
set_option maxRecDepth 100000 in
set_option maxHeartbeats 2000000 in
theorem bword_0 (k : Nat) (now : Int) (h : Bx w m r y O p n V S) (hk : k ≤ 15) (n0 : 0 ≤ now) (n1 : now ≤ 4611686018427387000) :
    Calls Tryz.prog 28 #[.pointer (some ⟨m, 0, none⟩), .int .i64 0, .int .u32 ((k : Int) * 4), .int .i64 now] w (WordsR 0 k now w m r y O p n V S) := by
  have hml := h.wb.st.lt
  have b23 := h.b23
  have b24 := h.b24
  go_enter Tryz.func28, Tryz.ntmps28
  go_wp2_with fail
  go_region
  go_upto_region 18 with fail
  obtain ⟨W1, X, hW1, hX⟩ : ∃ W1 X, ((w.alloc (.cells #[] 27)).alloc (.cells #[.int .u32 S.up, .int .u32 S.ask, .int .u32 (now % 4294967296), .int .u32 (now / 4294967296)] 27)).drew = W1 ∧ w.heap.size + 1 = X := ⟨_, _, rfl, rfl⟩
  have hb : Below w.heap.size w W1 := by
    rw [← hW1]
    exact (((Below.refl _ _).alloc (Nat.le_refl _) _).alloc (by simp) _).drew
  have hr : W1.rowIs X 27 4 (fun i => .int .u32 (wordX 0 i now S)) := by
    rw [← hW1, ← hX]
    refine (show w.heap.size + 1 = (w.alloc (.cells #[] 27)).heap.size by simp) ▸ World.rowIs_alloc _ #[.int .u32 S.up, .int .u32 S.ask, .int .u32 (now % 4294967296), .int .u32 (now / 4294967296)] _ _ fun i hi => ?_
    have : i = 0 ∨ i = 1 ∨ i = 2 ∨ i = 3 := by have : i < 4 := hi; omega
    rcases this with rfl | rfl | rfl | rfl
    · rfl
    · rfl
    · rfl
    · show some (Value.int .u32 (now / 4294967296)) = some (Value.int .u32 (now / 4294967296 % 4294967296))
      rw [show now / 4294967296 % 4294967296 = now / 4294967296 by omega]
  have h1 := h.below hb
  have hC := CB.of_below (m := m) (O := O) (V := V) hb
  rw [hW1, hX]
  clear hW1 hX hml n0 n1 b23 b24
  by_cases hkn : k < 4
  · have q := hr.cell (i := k) hkn
    have HD : Hid (decide (k < wordsN 0) = true) := Lib.hid (decide_eq_true hkn)
    have hkI : (k : Int) < 4 := by omega
    clear hr hk
    go_wp2
    go_ret2
    exact ⟨by rw [HD.out]; rfl, V, h1, hC⟩
  · have HD : Hid (decide (k < wordsN 0) = false) := Lib.hid (decide_eq_false hkn)
    have HX : Hid (wordX 0 k now S = 0) := by
      show _ = _
      obtain ⟨j, rfl⟩ : ∃ j, k = j + 4 := ⟨k - 4, by omega⟩
      show wordF (((j + 4 : Nat) : Int) * 4) now S.up S.ask = 0; unfold wordF; rw [if_neg (by omega), if_neg (by omega), if_neg (by omega), if_neg (by omega)]
    have hkI : (4 : Int) ≤ (k : Int) := by omega
    have hkM : (k : Int) < 4294967296 := by omega
    clear hr hk
    go_wp2
    go_ret2
    exact ⟨by rw [HD.out, HX.out]; rfl, V, h1, hC⟩
set_option maxRecDepth 100000 in
set_option maxHeartbeats 2000000 in
theorem bword_1 (k : Nat) (now : Int) (h : Bx w m r y O p n V S) (hk : k ≤ 15) (n0 : 0 ≤ now) (n1 : now ≤ 4611686018427387000) :
    Calls Tryz.prog 28 #[.pointer (some ⟨m, 0, none⟩), .int .i64 1, .int .u32 ((k : Int) * 4), .int .i64 now] w (WordsR 1 k now w m r y O p n V S) := by
  have hml := h.wb.st.lt
  have b3 := h.b3
  have b4 := h.b4
  have b5 := h.b5
  go_enter Tryz.func28, Tryz.ntmps28
  go_upto_region 18 with fail
  obtain ⟨W1, X, hW1, hX⟩ : ∃ W1 X, ((w.alloc (.cells #[] 27)).alloc (.cells #[.int .u32 (cwB S.r0 S.g0), .int .u32 S.p0, .int .u32 (ibB S.s0)] 50)).alloc (.cells #[.int .u32 (cwB S.r0 S.g0), .int .u32 S.p0, .int .u32 (ibB S.s0)] 27) = W1 ∧ w.heap.size + 1 + 1 = X := ⟨_, _, rfl, rfl⟩
  have hb : Below w.heap.size w W1 := by
    rw [← hW1]
    exact (((Below.refl _ _).alloc (Nat.le_refl _) _).alloc (by simp) _).alloc (by simp; omega) _
  have hr : W1.rowIs X 27 3 (fun i => .int .u32 (wordX 1 i now S)) := by
    rw [← hW1, ← hX]
    refine (show w.heap.size + 1 + 1 = ((w.alloc (.cells #[] 27)).alloc (.cells #[.int .u32 (cwB S.r0 S.g0), .int .u32 S.p0, .int .u32 (ibB S.s0)] 50)).heap.size by simp) ▸ World.rowIs_alloc _ #[.int .u32 (cwB S.r0 S.g0), .int .u32 S.p0, .int .u32 (ibB S.s0)] _ _ fun i hi => ?_
    have : i = 0 ∨ i = 1 ∨ i = 2 := by have : i < 3 := hi; omega
    rcases this with rfl | rfl | rfl <;> rfl
  have h1 := h.below hb
  have hC := CB.of_below (m := m) (O := O) (V := V) hb
  rw [hW1, hX]
  clear hW1 hX hml n0 n1 b3 b4 b5
  by_cases hkn : k < 3
  · have q := hr.cell (i := k) hkn
    have HD : Hid (decide (k < wordsN 1) = true) := Lib.hid (decide_eq_true hkn)
    have hkI : (k : Int) < 3 := by omega
    clear hr hk
    go_wp2
    go_ret2
    exact ⟨by rw [HD.out]; rfl, V, h1, hC⟩
  · have HD : Hid (decide (k < wordsN 1) = false) := Lib.hid (decide_eq_false hkn)
    have HX : Hid (wordX 1 k now S = 0) := by
      show _ = _
      obtain ⟨j, rfl⟩ : ∃ j, k = j + 3 := ⟨k - 3, by omega⟩
      rfl
    have hkI : (3 : Int) ≤ (k : Int) := by omega
    have hkM : (k : Int) < 4294967296 := by omega
    clear hr hk
    go_wp2
    go_ret2
    exact ⟨by rw [HD.out, HX.out]; rfl, V, h1, hC⟩
set_option maxRecDepth 100000 in
set_option maxHeartbeats 2000000 in
theorem bword_2 (k : Nat) (now : Int) (h : Bx w m r y O p n V S) (hk : k ≤ 15) (n0 : 0 ≤ now) (n1 : now ≤ 4611686018427387000) :
    Calls Tryz.prog 28 #[.pointer (some ⟨m, 0, none⟩), .int .i64 2, .int .u32 ((k : Int) * 4), .int .i64 now] w (WordsR 2 k now w m r y O p n V S) := by
  have hml := h.wb.st.lt
  have b6 := h.b6
  have b7 := h.b7
  have b8 := h.b8
  go_enter Tryz.func28, Tryz.ntmps28
  go_upto_region 18 with fail
  obtain ⟨W1, X, hW1, hX⟩ : ∃ W1 X, ((w.alloc (.cells #[] 27)).alloc (.cells #[.int .u32 (cwB S.r1 S.g1), .int .u32 S.p1, .int .u32 (ibB S.s1)] 50)).alloc (.cells #[.int .u32 (cwB S.r1 S.g1), .int .u32 S.p1, .int .u32 (ibB S.s1)] 27) = W1 ∧ w.heap.size + 1 + 1 = X := ⟨_, _, rfl, rfl⟩
  have hb : Below w.heap.size w W1 := by
    rw [← hW1]
    exact (((Below.refl _ _).alloc (Nat.le_refl _) _).alloc (by simp) _).alloc (by simp; omega) _
  have hr : W1.rowIs X 27 3 (fun i => .int .u32 (wordX 2 i now S)) := by
    rw [← hW1, ← hX]
    refine (show w.heap.size + 1 + 1 = ((w.alloc (.cells #[] 27)).alloc (.cells #[.int .u32 (cwB S.r1 S.g1), .int .u32 S.p1, .int .u32 (ibB S.s1)] 50)).heap.size by simp) ▸ World.rowIs_alloc _ #[.int .u32 (cwB S.r1 S.g1), .int .u32 S.p1, .int .u32 (ibB S.s1)] _ _ fun i hi => ?_
    have : i = 0 ∨ i = 1 ∨ i = 2 := by have : i < 3 := hi; omega
    rcases this with rfl | rfl | rfl <;> rfl
  have h1 := h.below hb
  have hC := CB.of_below (m := m) (O := O) (V := V) hb
  rw [hW1, hX]
  clear hW1 hX hml n0 n1 b6 b7 b8
  by_cases hkn : k < 3
  · have q := hr.cell (i := k) hkn
    have HD : Hid (decide (k < wordsN 2) = true) := Lib.hid (decide_eq_true hkn)
    have hkI : (k : Int) < 3 := by omega
    clear hr hk
    go_wp2
    go_ret2
    exact ⟨by rw [HD.out]; rfl, V, h1, hC⟩
  · have HD : Hid (decide (k < wordsN 2) = false) := Lib.hid (decide_eq_false hkn)
    have HX : Hid (wordX 2 k now S = 0) := by
      show _ = _
      obtain ⟨j, rfl⟩ : ∃ j, k = j + 3 := ⟨k - 3, by omega⟩
      rfl
    have hkI : (3 : Int) ≤ (k : Int) := by omega
    have hkM : (k : Int) < 4294967296 := by omega
    clear hr hk
    go_wp2
    go_ret2
    exact ⟨by rw [HD.out, HX.out]; rfl, V, h1, hC⟩
set_option maxRecDepth 100000 in
set_option maxHeartbeats 2000000 in
theorem bword_4 (k : Nat) (now : Int) (h : Bx w m r y O p n V S) (hk : k ≤ 15) (n0 : 0 ≤ now) (n1 : now ≤ 4611686018427387000) :
    Calls Tryz.prog 28 #[.pointer (some ⟨m, 0, none⟩), .int .i64 4, .int .u32 ((k : Int) * 4), .int .i64 now] w (WordsR 4 k now w m r y O p n V S) := by
  have hml := h.wb.st.lt
  have b14 := h.b14
  have b15 := h.b15
  have b16 := h.b16
  have b17 := h.b17
  go_enter Tryz.func28, Tryz.ntmps28
  go_wp2_with fail
  go_region
  go_upto_region 18 with fail
  obtain ⟨W1, X, hW1, hX⟩ : ∃ W1 X, ((w.alloc (.cells #[] 27)).alloc (.cells #[.int .u32 S.f, .int .u32 S.t, .int .u32 S.n, .int .u32 0, .int .u32 (sw S.bz S.dn S.er)] 27)).drew = W1 ∧ w.heap.size + 1 = X := ⟨_, _, rfl, rfl⟩
  have hb : Below w.heap.size w W1 := by
    rw [← hW1]
    exact (((Below.refl _ _).alloc (Nat.le_refl _) _).alloc (by simp) _).drew
  have hr : W1.rowIs X 27 5 (fun i => .int .u32 (wordX 4 i now S)) := by
    rw [← hW1, ← hX]
    refine (show w.heap.size + 1 = (w.alloc (.cells #[] 27)).heap.size by simp) ▸ World.rowIs_alloc _ #[.int .u32 S.f, .int .u32 S.t, .int .u32 S.n, .int .u32 0, .int .u32 (sw S.bz S.dn S.er)] _ _ fun i hi => ?_
    have : i = 0 ∨ i = 1 ∨ i = 2 ∨ i = 3 ∨ i = 4 := by have : i < 5 := hi; omega
    rcases this with rfl | rfl | rfl | rfl | rfl <;> rfl
  have h1 := h.below hb
  have hC := CB.of_below (m := m) (O := O) (V := V) hb
  rw [hW1, hX]
  clear hW1 hX hml n0 n1 b14 b15 b16 b17
  by_cases hkn : k < 5
  · have q := hr.cell (i := k) hkn
    have HD : Hid (decide (k < wordsN 4) = true) := Lib.hid (decide_eq_true hkn)
    have hkI : (k : Int) < 5 := by omega
    clear hr hk
    go_wp2
    go_ret2
    exact ⟨by rw [HD.out]; rfl, V, h1, hC⟩
  · have HD : Hid (decide (k < wordsN 4) = false) := Lib.hid (decide_eq_false hkn)
    have HX : Hid (wordX 4 k now S = 0) := by
      show _ = _
      obtain ⟨j, rfl⟩ : ∃ j, k = j + 5 := ⟨k - 5, by omega⟩
      rfl
    have hkI : (5 : Int) ≤ (k : Int) := by omega
    have hkM : (k : Int) < 4294967296 := by omega
    clear hr hk
    go_wp2
    go_ret2
    exact ⟨by rw [HD.out, HX.out]; rfl, V, h1, hC⟩
set_option maxRecDepth 100000 in
set_option maxHeartbeats 2000000 in
theorem bword_5 (k : Nat) (now : Int) (h : Bx w m r y O p n V S) (hk : k ≤ 15) (n0 : 0 ≤ now) (n1 : now ≤ 4611686018427387000) :
    Calls Tryz.prog 28 #[.pointer (some ⟨m, 0, none⟩), .int .i64 5, .int .u32 ((k : Int) * 4), .int .i64 now] w (WordsR 5 k now w m r y O p n V S) := by
  have hml := h.wb.st.lt
  have b18 := h.b18
  have b19 := h.b19
  have b20 := h.b20
  have b21 := h.b21
  go_enter Tryz.func28, Tryz.ntmps28
  go_wp2_with fail
  go_region
  go_upto_region 18 with fail
  obtain ⟨W1, X, hW1, hX⟩ : ∃ W1 X, ((w.alloc (.cells #[] 27)).alloc (.cells #[.int .u32 S.z, .int .u32 S.kt, .int .u32 S.kc, .int .u32 (sw S.kz S.kd S.ke)] 27)).drew = W1 ∧ w.heap.size + 1 = X := ⟨_, _, rfl, rfl⟩
  have hb : Below w.heap.size w W1 := by
    rw [← hW1]
    exact (((Below.refl _ _).alloc (Nat.le_refl _) _).alloc (by simp) _).drew
  have hr : W1.rowIs X 27 4 (fun i => .int .u32 (wordX 5 i now S)) := by
    rw [← hW1, ← hX]
    refine (show w.heap.size + 1 = (w.alloc (.cells #[] 27)).heap.size by simp) ▸ World.rowIs_alloc _ #[.int .u32 S.z, .int .u32 S.kt, .int .u32 S.kc, .int .u32 (sw S.kz S.kd S.ke)] _ _ fun i hi => ?_
    have : i = 0 ∨ i = 1 ∨ i = 2 ∨ i = 3 := by have : i < 4 := hi; omega
    rcases this with rfl | rfl | rfl | rfl <;> rfl
  have h1 := h.below hb
  have hC := CB.of_below (m := m) (O := O) (V := V) hb
  rw [hW1, hX]
  clear hW1 hX hml n0 n1 b18 b19 b20 b21
  by_cases hkn : k < 4
  · have q := hr.cell (i := k) hkn
    have HD : Hid (decide (k < wordsN 5) = true) := Lib.hid (decide_eq_true hkn)
    have hkI : (k : Int) < 4 := by omega
    clear hr hk
    go_wp2
    go_ret2
    exact ⟨by rw [HD.out]; rfl, V, h1, hC⟩
  · have HD : Hid (decide (k < wordsN 5) = false) := Lib.hid (decide_eq_false hkn)
    have HX : Hid (wordX 5 k now S = 0) := by
      show _ = _
      obtain ⟨j, rfl⟩ : ∃ j, k = j + 4 := ⟨k - 4, by omega⟩
      rfl
    have hkI : (4 : Int) ≤ (k : Int) := by omega
    have hkM : (k : Int) < 4294967296 := by omega
    clear hr hk
    go_wp2
    go_ret2
    exact ⟨by rw [HD.out, HX.out]; rfl, V, h1, hC⟩
end
end Go.Proofs.YtkfedihaldpgmaaGreat
