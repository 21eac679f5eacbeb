/-
  Chapter 2: which pages are told as written (note, touch), and the marks (Mark, Unmark), of the program's memory and of the document's.
-/
import Derived.Test.YtkfedihaldpgmaaGreatWf9
import Derived.WalkKit
import Derived.WalkSpells
import Derived.Below
import Derived.Deep.OwnRows
import Derived.Deep.QuietTactic
import Derived.BigQuiet
import Derived.Lib.Hide
/-
  Chapter 2: what a memory is in the heap (a struct of mem3 slices, its bytes, its marks, its pages written), and the small functions that only look at one.
-/
namespace Go.Proofs.YtkfedihaldpgmaaGreat
open Go.RowKit
set_option linter.unusedVariables false

/-- a slice over the whole of block b, n cells -/
def whole (b n : Nat) : Value := .slice (some ⟨b, 0, none⟩) n n
/-- a struct of mem3 slices -/
def mem3 (b m t p : Nat) : Nat → Value
  | 0 => .slice (some ⟨b, 0, none⟩) (1024 * p) (1024 * p)
  | 1 => .slice (some ⟨m, 0, none⟩) p p
  | _ => .slice (some ⟨t, 0, none⟩) p p
/-- block g is a memory of p pages (its struct of type T): bytes C, marks M, written D -/
structure Mem (T : TypeId) (w : World) (g b m t p : Nat) (C : Nat → Int) (M D : Nat → Bool) : Prop where
  st : w.rowIs g T 3 (mem3 b m t p)
  hb : w.rowIs b 5 (1024 * p) (fun i => .int .u8 (C i))
  hm : w.rowIs m 4 p (fun i => .bool (M i))
  ht : w.rowIs t 4 p (fun i => .bool (D i))
  gb : g ≠ b
  gm : g ≠ m
  gt : g ≠ t
  bm : b ≠ m
  bt : b ≠ t
  mt : m ≠ t
  p1 : 1 ≤ p
  p2 : p ≤ 64
  c0 : ∀ i, 0 ≤ C i
  c1 : ∀ i, C i ≤ 255
theorem Mem.cell0 {T : TypeId} {w : World} {g b m t p : Nat} {C : Nat → Int} {M D : Nat → Bool} (h : Mem T w g b m t p C M D) : w.cell? ⟨g, 0, none⟩ = some (.slice (some ⟨b, 0, none⟩) (1024 * p) (1024 * p)) := h.st.cell (i := 0) (by omega)
theorem Mem.cell1 {T : TypeId} {w : World} {g b m t p : Nat} {C : Nat → Int} {M D : Nat → Bool} (h : Mem T w g b m t p C M D) : w.cell? ⟨g, 1, none⟩ = some (.slice (some ⟨m, 0, none⟩) p p) := h.st.cell (i := 1) (by omega)
theorem Mem.cell2 {T : TypeId} {w : World} {g b m t p : Nat} {C : Nat → Int} {M D : Nat → Bool} (h : Mem T w g b m t p C M D) : w.cell? ⟨g, 2, none⟩ = some (.slice (some ⟨t, 0, none⟩) p p) := h.st.cell (i := 2) (by omega)

theorem Fr.setRow {S : Nat → Prop} {a b : World} (h : Fr S a b) {x : Nat} (hx : S x ∨ a.heap.size ≤ x) (u : Array Value) : Fr S a (b.setRow x u) :=
  ⟨h.os, h.tape, h.output, by simpa [World.setRow] using h.size, fun i hi hn => (setRow_other b x i u (by
    rintro rfl
    rcases hx with hx | hx
    · exact hn hx
    · omega)).trans (h.block i hi hn)⟩
/-- a memory's own blocks that are written -/
def OwnM (b m t : Nat) (k : Nat) : Prop := k = b ∨ k = m ∨ k = t

section
variable {T : TypeId} {w w' : World} {g b m t p : Nat} {C : Nat → Int} {M D : Nat → Bool}
theorem Mem.keep {S : Nat → Prop} (h : Mem T w g b m t p C M D) (f : Fr S w w') (hg : ¬ S g) (hb : ¬ S b) (hm : ¬ S m) (ht : ¬ S t) : Mem T w' g b m t p C M D :=
  { h with st := h.st.of_block (f.block _ h.st.lt hg), hb := h.hb.of_block (f.block _ h.hb.lt hb), hm := h.hm.of_block (f.block _ h.hm.lt hm), ht := h.ht.of_block (f.block _ h.ht.lt ht) }
theorem Mem.drewN (h : Mem T w g b m t p C M D) (n : Nat) : Mem T (w.drewN n) g b m t p C M D := { h with st := h.st, hb := h.hb, hm := h.hm, ht := h.ht }
theorem Mem.alloc (h : Mem T w g b m t p C M D) (o : Obj) : Mem T (w.alloc o) g b m t p C M D := { h with st := h.st.alloc o, hb := h.hb.alloc o, hm := h.hm.alloc o, ht := h.ht.alloc o }
theorem Mem.setB (h : Mem T w g b m t p C M D) (i : Nat) (x : Int) (x0 : 0 ≤ x) (x1 : x ≤ 255) : Mem T (w.setCell ⟨b, i, none⟩ (.int .u8 x)) g b m t p (fun j => if j = i then x else C j) M D :=
  { h with
    st := h.st.setOther h.gb _
    hb := (h.hb.set i _).congr (fun j _ => by split <;> rfl)
    hm := h.hm.setOther h.bm.symm _
    ht := h.ht.setOther h.bt.symm _
    c0 := fun j => by split; exact x0; exact h.c0 j
    c1 := fun j => by split; exact x1; exact h.c1 j }
theorem Mem.setM (h : Mem T w g b m t p C M D) (i : Nat) (x : Bool) : Mem T (w.setCell ⟨m, i, none⟩ (.bool x)) g b m t p C (fun j => if j = i then x else M j) D :=
  { h with
    st := h.st.setOther h.gm _
    hb := h.hb.setOther h.bm _
    hm := (h.hm.set i _).congr (fun j _ => by split <;> rfl)
    ht := h.ht.setOther h.mt.symm _ }
theorem Mem.setT (h : Mem T w g b m t p C M D) (i : Nat) (x : Bool) : Mem T (w.setCell ⟨t, i, none⟩ (.bool x)) g b m t p C M (fun j => if j = i then x else D j) :=
  { h with
    st := h.st.setOther h.gt _
    hb := h.hb.setOther h.bt _
    hm := h.hm.setOther h.mt _
    ht := (h.ht.set i _).congr (fun j _ => by split <;> rfl) }
end

/-- n bytes from a on are all there -/
def inB (p : Nat) (a n : Int) : Bool := decide (0 ≤ n ∧ a + n ≤ 1024 * p)
/-- a number of n bytes may lie at a -/
def okN (p : Nat) (a n : Int) : Bool := decide ((n = 1 ∨ n = 2 ∨ n = 4) ∧ a % n = 0 ∧ a + n ≤ 1024 * p)
/-- there is such a page -/
def isP (p : Nat) (k : Int) : Bool := decide (0 ≤ k ∧ k < p)

section
variable {w : World} {g b m t p : Nat} {C : Nat → Int} {M D : Nat → Bool}

set_option maxHeartbeats 400000 in
theorem size_any (h : Mem 103 w g b m t p C M D) : Calls Tryz.prog 18 #[.pointer (some ⟨g, 0, none⟩)] w fun e w' => e = .returned (.int .u32 (1024 * p : Nat)) ∧ w = w' := by
  have c0 := h.cell0
  have p1 := h.p1
  have p2 := h.p2
  go_enter Tryz.func18, Tryz.ntmps18
  go_wp2
  go_ret
  exact ⟨ret_int (by omega), rfl⟩

set_option maxHeartbeats 400000 in
theorem holds_any (a n : Int) (h : Mem 103 w g b m t p C M D) (h0 : 0 ≤ a) (h1 : a < 4294967296) (n0 : -9223372036854775808 ≤ n) (n1 : n ≤ 9223372036854775807) :
    Calls Tryz.prog 50 #[.pointer (some ⟨g, 0, none⟩), .int .u32 a, .int .i64 n] w fun e w' => e = .returned (.bool (inB p a n)) ∧ w = w' := by
  have c0 := h.cell0
  have p1 := h.p1
  have p2 := h.p2
  by_cases hn : 0 ≤ n
  · go_enter Tryz.func50, Tryz.ntmps50
    go_wp2
    go_ret
    exact ⟨ret_bool (by unfold inB; rw [decide_eq_decide]; omega), rfl⟩
  · go_enter Tryz.func50, Tryz.ntmps50
    go_wp2
    go_ret
    exact ⟨ret_bool (by unfold inB; rw [eq_comm, decide_eq_false_iff_not]; omega), rfl⟩

set_option maxHeartbeats 400000 in
theorem rin_any (a n : Int) (h : Mem 62 w g b m t p C M D) (h0 : 0 ≤ a) (h1 : a < 4294967296) (n0 : -9223372036854775808 ≤ n) (n1 : n ≤ 9223372036854775807) :
    Calls Tryz.prog 63 #[.pointer (some ⟨g, 0, none⟩), .int .u32 a, .int .i64 n] w fun e w' => e = .returned (.bool (inB p a n)) ∧ w = w' := by
  have c0 := h.cell0
  have p1 := h.p1
  have p2 := h.p2
  by_cases hn : 0 ≤ n
  · go_enter Tryz.func63, Tryz.ntmps63
    go_wp2
    go_ret
    exact ⟨ret_bool (by unfold inB; rw [decide_eq_decide]; omega), rfl⟩
  · go_enter Tryz.func63, Tryz.ntmps63
    go_wp2
    go_ret
    exact ⟨ret_bool (by unfold inB; rw [eq_comm, decide_eq_false_iff_not]; omega), rfl⟩

set_option maxHeartbeats 400000 in
theorem number_any (a n : Int) (h : Mem 103 w g b m t p C M D) (h0 : 0 ≤ a) (h1 : a < 4294967296) (n0 : -9223372036854775808 ≤ n) (n1 : n ≤ 9223372036854775807) :
    Calls Tryz.prog 58 #[.pointer (some ⟨g, 0, none⟩), .int .u32 a, .int .i64 n] w fun e w' => e = .returned (.bool (okN p a n)) ∧ w = w' := by
  by_cases hn : n = 1 ∨ n = 2 ∨ n = 4
  · rcases hn with rfl | rfl | rfl
    all_goals
      have hr : 0 ≤ a % 1 ∧ 0 ≤ a % 2 ∧ 0 ≤ a % 4 := by omega
      go_enter Tryz.func58, Tryz.ntmps58
      go_wp2_with (go_at_call 50; refine (holds_any _ _ h (by omega) (by omega) (by omega) (by omega)).mono ?_; rintro e w' ⟨rfl, rfl⟩)
      all_goals
        go_ret
        exact ⟨ret_bool (by first | (simp [okN, inB, *]; done) | (simp [okN, inB, *]; omega)), rfl⟩
  · have e1 : (n == 1) = false := by simp; omega
    have e2 : (n == 2) = false := by simp; omega
    have e4 : (n == 4) = false := by simp; omega
    go_enter Tryz.func58, Tryz.ntmps58
    go_wp2
    go_ret
    exact ⟨ret_bool (by unfold okN; rw [eq_comm, decide_eq_false_iff_not]; omega), rfl⟩

/-- a page's mark; of no page: false -/
def mkAt (p : Nat) (M : Nat → Bool) (k : Int) : Bool := isP p k && M k.toNat
end
end Go.Proofs.YtkfedihaldpgmaaGreat

namespace Go.Proofs.YtkfedihaldpgmaaGreat
open Go.RowKit
set_option linter.unusedVariables false

/-- page k holds one of the n bytes from a on -/
def pg (a n k : Nat) : Bool := decide (0 < n ∧ a / 1024 ≤ k ∧ k ≤ (a + n - 1) / 1024)
/-- the pages written, behind n bytes from a on -/
def td (M D : Nat → Bool) (a n : Nat) : Nat → Bool := fun k => D k || (M k && pg a n k)
/-- the marked pages from f to below F -/
def tk (M D : Nat → Bool) (f F : Nat) : Nat → Bool := fun k => D k || (M k && decide (f ≤ k ∧ k < F))
theorem tk_yes (M D : Nat → Bool) (f F : Nat) (hf : f ≤ F) (h : M F = true) : (fun k => if k = F then true else tk M D f F k) = tk M D f (F + 1) := by
  funext k
  by_cases e : k = F
  · subst e; simp [tk, h, hf]
  · have : decide (f ≤ k ∧ k < F) = decide (f ≤ k ∧ k < F + 1) := by rw [decide_eq_decide]; omega
    simp only [tk, if_neg e, this]
theorem tk_no (M D : Nat → Bool) (f F : Nat) (h : M F = false) : tk M D f F = tk M D f (F + 1) := by
  funext k
  by_cases e : k = F
  · subst e; simp [tk, h]
  · have : decide (f ≤ k ∧ k < F) = decide (f ≤ k ∧ k < F + 1) := by rw [decide_eq_decide]; omega
    simp only [tk, this]
theorem tk_zero (M D : Nat → Bool) (f : Nat) : tk M D f f = D := by
  funext k
  have : decide (f ≤ k ∧ k < f) = false := by rw [decide_eq_false_iff_not]; omega
  simp [tk, this]
theorem tk_td (M D : Nat → Bool) (a n F : Nat) (hn : 0 < n) (h : F = (a + n - 1) / 1024 + 1) : tk M D (a / 1024) F = td M D a n := by
  funext k
  have : decide (a / 1024 ≤ k ∧ k < F) = pg a n k := by unfold pg; rw [decide_eq_decide]; omega
  simp only [tk, td, this]
theorem td_zero (M D : Nat → Bool) (a : Nat) : td M D a 0 = D := by funext k; simp [td, pg]
theorem td_yes (M D : Nat → Bool) (a n : Nat) (h : M ((a + n) / 1024) = true) : (fun k => if k = (a + n) / 1024 then true else td M D a n k) = td M D a (n + 1) := by
  funext k
  by_cases e : k = (a + n) / 1024
  · have : pg a (n + 1) k = true := by unfold pg; simp; omega
    subst e; simp [td, h, this]
  · have : pg a n k = pg a (n + 1) k := by unfold pg; rw [decide_eq_decide]; omega
    simp only [td, if_neg e, this]
theorem td_no (M D : Nat → Bool) (a n : Nat) (h : M ((a + n) / 1024) = false) : td M D a n = td M D a (n + 1) := by
  funext k
  by_cases e : k = (a + n) / 1024
  · subst e; simp [td, h]
  · have : pg a n k = pg a (n + 1) k := by unfold pg; rw [decide_eq_decide]; omega
    simp only [td, this]

section
variable {w : World} {g b m t p : Nat} {C : Nat → Int} {M D : Nat → Bool}
/-- nothing is returned; the memory is as told, and nothing else has turned -/
def NoteP (T : TypeId) (w : World) (g b m t p : Nat) (C : Nat → Int) (M D : Nat → Bool) (e : Ending) (w' : World) : Prop :=
  e = .returned (.tuple #[]) ∧ Mem T w' g b m t p C M D ∧ Fr (OwnM b m t) w w'

set_option maxHeartbeats 400000 in
theorem note_any (A n : Nat) (h : Mem 103 w g b m t p C M D) (hin : A + n ≤ 1024 * p) :
    Calls Tryz.prog 51 #[.pointer (some ⟨g, 0, none⟩), .int .u32 A, .int .i64 n] w (NoteP 103 w g b m t p C M (td M D A n)) := by
  have p2 := h.p2
  by_cases hn : n = 0
  · subst hn
    go_enter Tryz.func51, Tryz.ntmps51
    go_wp2
    refine bodyPost_ret (results_none rfl _ _ _) rfl ?_
    exact ⟨rfl, by rw [td_zero]; exact h, Fr.refl _ _⟩
  · have hn1 : 1 ≤ n := by omega
    have hn2 : ((n : Int) == 0) = false := by simp; omega
    have q0 : 0 ≤ A / 1024 := by omega
    go_enter Tryz.func51, Tryz.ntmps51
    go_wp2
    go_loopw [8] (fun i wr => ∃ F : Nat, A / 1024 ≤ F ∧ F ≤ (A + n - 1) / 1024 + 1 ∧ i = .int .i64 F ∧ Mem 103 wr g b m t p C M (tk M D (A / 1024) F) ∧ Fr (OwnM b m t) w wr) (fun i _ => 100 - (intOf i).toNat)
    case atStart => exact ⟨A / 1024, by omega, by omega, by go_num, by rw [tk_zero]; exact h, Fr.refl _ _⟩
    case round =>
      obtain ⟨F, hF0, hF1, rfl, hm, hf⟩ := hrel
      have c1 := hm.cell1
      have c2 := hm.cell2
      by_cases hlt : F ≤ (A + n - 1) / 1024
      · have hcm := hm.hm.cell (i := F) (by omega)
        have hct := hm.ht.cell (i := F) (by omega)
        have hfz := hm.ht.frozen F
        have hFp : F < p := by omega
        cases hM : M F
        · rw [hM] at hcm
          have HM := Lib.hid hM
          clear hM
          go_wp2
          go_roundw
          case rel => exact ⟨F + 1, by omega, by omega, by go_num, by rw [← tk_no M D _ F HM.out]; exact hm, hf⟩
          case measure => simp [intOf]; omega
        · rw [hM] at hcm
          have HM := Lib.hid hM
          clear hM
          go_wp2
          go_roundw
          case rel => exact ⟨F + 1, by omega, by omega, by go_num, by rw [← tk_yes M D _ F hF0 HM.out]; exact hm.setT F true, hf.setCell (.inl (.inr (.inr rfl))) _⟩
          case measure => simp [intOf]; omega
      · go_wp2
        go_end0
        exact ⟨rfl, by rw [← tk_td M D A n F (by omega) (by omega)]; exact hm, hf⟩

set_option maxHeartbeats 400000 in
theorem touch_any (A n : Nat) (h : Mem 62 w g b m t p C M D) (hin : A + n ≤ 1024 * p) :
    Calls Tryz.prog 67 #[.pointer (some ⟨g, 0, none⟩), .int .u32 A, .int .i64 n] w (NoteP 62 w g b m t p C M (td M D A n)) := by
  have p2 := h.p2
  go_enter Tryz.func67, Tryz.ntmps67
  go_wp2
  go_loopw [6] (fun i wr => ∃ k : Nat, k ≤ n ∧ i = .int .i64 k ∧ Mem 62 wr g b m t p C M (td M D A k) ∧ Fr (OwnM b m t) w wr) (fun i _ => n - (intOf i).toNat)
  case atStart => exact ⟨0, by omega, by go_num, by rw [td_zero]; exact h, Fr.refl _ _⟩
  case round =>
    obtain ⟨k, hk, rfl, hm, hf⟩ := hrel
    have c1 := hm.cell1
    have c2 := hm.cell2
    by_cases hlt : k < n
    · obtain ⟨F, HF⟩ : ∃ F, Hid (F = (A + k) / 1024) := ⟨_, rfl⟩
      have hFp : F < p := by have := HF.out; omega
      have hcm := hm.hm.cell (i := (A + k) / 1024) (by omega)
      have hct := hm.ht.cell (i := (A + k) / 1024) (by omega)
      have hfz := hm.ht.frozen ((A + k) / 1024)
      cases hM : M ((A + k) / 1024)
      · rw [hM] at hcm
        have HM := Lib.hid hM
        clear hM
        go_wp2
        go_roundw
        case rel => exact ⟨k + 1, by omega, by go_num, by rw [← td_no M D A k HM.out]; exact hm, hf⟩
        case measure => simp [intOf]; omega
      · rw [hM] at hcm
        have HM := Lib.hid hM
        clear hM
        go_wp2
        go_roundw
        case rel => exact ⟨k + 1, by omega, by go_num, by rw [← td_yes M D A k HM.out]; exact hm.setT _ true, hf.setCell (.inl (.inr (.inr rfl))) _⟩
        case measure => simp [intOf]; omega
    · obtain rfl : k = n := by omega
      go_wp2
      go_end0
      exact ⟨rfl, hm, hf⟩

end
/-- a page's bit is set; of no page: nothing -/
def setP (p : Nat) (M : Nat → Bool) (k : Int) (x : Bool) : Nat → Bool := match isP p k with
  | true => fun j => if j = k.toNat then x else M j
  | false => M
section
variable {w : World} {g b m t p : Nat} {C : Nat → Int} {M D : Nat → Bool}

end
end Go.Proofs.YtkfedihaldpgmaaGreat
