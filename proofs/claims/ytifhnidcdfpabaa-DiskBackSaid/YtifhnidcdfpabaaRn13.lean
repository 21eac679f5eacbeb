/-
  Chapter 2: which pages are told as written (note, touch), and the marks (Mark, Unmark), of the program's memory and of the document's.
-/
import Derived.Test.YtifhnidcdfpabaaRm13
namespace Go.Proofs.Ytifhnidcdfpabaa
open Go.RowKit
set_option linter.unusedVariables false

/-- page k holds one of the n bytes from a on -/
def pg (a n k : Nat) : Bool := decide (0 < n ∧ a / 1024 ≤ k ∧ k ≤ (a + n - 1) / 1024)
/-- the pages written, behind n bytes from a on -/
def td (M D : Nat → Bool) (a n : Nat) : Nat → Bool := fun k => D k || (M k && pg a n k)
/-- the marked pages from f to below F -/
def tk (M D : Nat → Bool) (f F : Nat) : Nat → Bool := fun k => D k || (M k && decide (f ≤ k ∧ k < F))
theorem tk_yes (M D : Nat → Bool) (f F : Nat) (hf : f ≤ F) (h : M F = true) : (fun k => if k = F then true else tk M D f F k) = tk M D f (F + 1) := by
  funext k
  by_cases e : k = F
  · subst e; simp [tk, h, hf]
  · have : decide (f ≤ k ∧ k < F) = decide (f ≤ k ∧ k < F + 1) := by rw [decide_eq_decide]; omega
    simp only [tk, if_neg e, this]
theorem tk_no (M D : Nat → Bool) (f F : Nat) (h : M F = false) : tk M D f F = tk M D f (F + 1) := by
  funext k
  by_cases e : k = F
  · subst e; simp [tk, h]
  · have : decide (f ≤ k ∧ k < F) = decide (f ≤ k ∧ k < F + 1) := by rw [decide_eq_decide]; omega
    simp only [tk, this]
theorem tk_zero (M D : Nat → Bool) (f : Nat) : tk M D f f = D := by
  funext k
  have : decide (f ≤ k ∧ k < f) = false := by rw [decide_eq_false_iff_not]; omega
  simp [tk, this]
theorem tk_td (M D : Nat → Bool) (a n F : Nat) (hn : 0 < n) (h : F = (a + n - 1) / 1024 + 1) : tk M D (a / 1024) F = td M D a n := by
  funext k
  have : decide (a / 1024 ≤ k ∧ k < F) = pg a n k := by unfold pg; rw [decide_eq_decide]; omega
  simp only [tk, td, this]
theorem td_zero (M D : Nat → Bool) (a : Nat) : td M D a 0 = D := by funext k; simp [td, pg]
theorem td_yes (M D : Nat → Bool) (a n : Nat) (h : M ((a + n) / 1024) = true) : (fun k => if k = (a + n) / 1024 then true else td M D a n k) = td M D a (n + 1) := by
  funext k
  by_cases e : k = (a + n) / 1024
  · have : pg a (n + 1) k = true := by unfold pg; simp; omega
    subst e; simp [td, h, this]
  · have : pg a n k = pg a (n + 1) k := by unfold pg; rw [decide_eq_decide]; omega
    simp only [td, if_neg e, this]
theorem td_no (M D : Nat → Bool) (a n : Nat) (h : M ((a + n) / 1024) = false) : td M D a n = td M D a (n + 1) := by
  funext k
  by_cases e : k = (a + n) / 1024
  · subst e; simp [td, h]
  · have : pg a n k = pg a (n + 1) k := by unfold pg; rw [decide_eq_decide]; omega
    simp only [td, this]

section
variable {w : World} {g b m t p : Nat} {C : Nat → Int} {M D : Nat → Bool}
/-- nothing is returned; the memory is as told, and nothing else has turned -/
def NoteP (T : TypeId) (w : World) (g b m t p : Nat) (C : Nat → Int) (M D : Nat → Bool) (e : Ending) (w' : World) : Prop :=
  e = .returned (.tuple #[]) ∧ Mem T w' g b m t p C M D ∧ Fr (OwnM b m t) w w'

set_option maxHeartbeats 400000 in
theorem note_any (A n : Nat) (h : Mem 85 w g b m t p C M D) (hin : A + n ≤ 1024 * p) :
    Calls Try.prog 33 #[.pointer (some ⟨g, 0, none⟩), .int .u32 A, .int .i64 n] w (NoteP 85 w g b m t p C M (td M D A n)) := by
  have p2 := h.p2
  by_cases hn : n = 0
  · subst hn
    go_enter Try.func33, Try.ntmps33
    go_wp2
    refine bodyPost_ret (results_none rfl _ _ _) rfl ?_
    exact ⟨rfl, by rw [td_zero]; exact h, Fr.refl _ _⟩
  · have hn1 : 1 ≤ n := by omega
    have hn2 : ((n : Int) == 0) = false := by simp; omega
    have q0 : 0 ≤ A / 1024 := by omega
    go_enter Try.func33, Try.ntmps33
    go_wp2
    go_loopw [8] (fun i wr => ∃ F : Nat, A / 1024 ≤ F ∧ F ≤ (A + n - 1) / 1024 + 1 ∧ i = .int .i64 F ∧ Mem 85 wr g b m t p C M (tk M D (A / 1024) F) ∧ Fr (OwnM b m t) w wr) (fun i _ => 100 - (intOf i).toNat)
    case atStart => exact ⟨A / 1024, by omega, by omega, by go_num, by rw [tk_zero]; exact h, Fr.refl _ _⟩
    case round =>
      obtain ⟨F, hF0, hF1, rfl, hm, hf⟩ := hrel
      have c1 := hm.cell1
      have c2 := hm.cell2
      by_cases hlt : F ≤ (A + n - 1) / 1024
      · have hcm := hm.hm.cell (i := F) (by omega)
        have hct := hm.ht.cell (i := F) (by omega)
        have hfz := hm.ht.frozen F
        have hFp : F < p := by omega
        cases hM : M F
        · rw [hM] at hcm
          have HM := Lib.hid hM
          clear hM
          go_wp2
          go_roundw
          case rel => exact ⟨F + 1, by omega, by omega, by go_num, by rw [← tk_no M D _ F HM.out]; exact hm, hf⟩
          case measure => simp [intOf]; omega
        · rw [hM] at hcm
          have HM := Lib.hid hM
          clear hM
          go_wp2
          go_roundw
          case rel => exact ⟨F + 1, by omega, by omega, by go_num, by rw [← tk_yes M D _ F hF0 HM.out]; exact hm.setT F true, hf.setCell (.inl (.inr (.inr rfl))) _⟩
          case measure => simp [intOf]; omega
      · go_wp2
        go_end0
        exact ⟨rfl, by rw [← tk_td M D A n F (by omega) (by omega)]; exact hm, hf⟩

set_option maxHeartbeats 400000 in
theorem touch_any (A n : Nat) (h : Mem 81 w g b m t p C M D) (hin : A + n ≤ 1024 * p) :
    Calls Try.prog 45 #[.pointer (some ⟨g, 0, none⟩), .int .u32 A, .int .i64 n] w (NoteP 81 w g b m t p C M (td M D A n)) := by
  have p2 := h.p2
  go_enter Try.func45, Try.ntmps45
  go_wp2
  go_loopw [6] (fun i wr => ∃ k : Nat, k ≤ n ∧ i = .int .i64 k ∧ Mem 81 wr g b m t p C M (td M D A k) ∧ Fr (OwnM b m t) w wr) (fun i _ => n - (intOf i).toNat)
  case atStart => exact ⟨0, by omega, by go_num, by rw [td_zero]; exact h, Fr.refl _ _⟩
  case round =>
    obtain ⟨k, hk, rfl, hm, hf⟩ := hrel
    have c1 := hm.cell1
    have c2 := hm.cell2
    by_cases hlt : k < n
    · obtain ⟨F, HF⟩ : ∃ F, Hid (F = (A + k) / 1024) := ⟨_, rfl⟩
      have hFp : F < p := by have := HF.out; omega
      have hcm := hm.hm.cell (i := (A + k) / 1024) (by omega)
      have hct := hm.ht.cell (i := (A + k) / 1024) (by omega)
      have hfz := hm.ht.frozen ((A + k) / 1024)
      cases hM : M ((A + k) / 1024)
      · rw [hM] at hcm
        have HM := Lib.hid hM
        clear hM
        go_wp2
        go_roundw
        case rel => exact ⟨k + 1, by omega, by go_num, by rw [← td_no M D A k HM.out]; exact hm, hf⟩
        case measure => simp [intOf]; omega
      · rw [hM] at hcm
        have HM := Lib.hid hM
        clear hM
        go_wp2
        go_roundw
        case rel => exact ⟨k + 1, by omega, by go_num, by rw [← td_yes M D A k HM.out]; exact hm.setT _ true, hf.setCell (.inl (.inr (.inr rfl))) _⟩
        case measure => simp [intOf]; omega
    · obtain rfl : k = n := by omega
      go_wp2
      go_end0
      exact ⟨rfl, hm, hf⟩

end
/-- a page's bit is set; of no page: nothing -/
def setP (p : Nat) (M : Nat → Bool) (k : Int) (x : Bool) : Nat → Bool := match isP p k with
  | true => fun j => if j = k.toNat then x else M j
  | false => M
section
variable {w : World} {g b m t p : Nat} {C : Nat → Int} {M D : Nat → Bool}

end
end Go.Proofs.Ytifhnidcdfpabaa
