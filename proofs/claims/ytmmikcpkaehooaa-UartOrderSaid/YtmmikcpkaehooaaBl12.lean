/-
  Chapter 12: lists of the first bytes; a slice of bytes that came in, as a text.
-/
import Derived.Test.YtmmikcpkaehooaaKn12
namespace Go.Proofs.Ytmmikcpkaehooaa
open Go.RowKit
set_option linter.unusedVariables false
set_option linter.unusedSimpArgs false
/-- the first i bytes -/
def bl (f : Nat → Int) (i : Nat) : List Int := (List.range i).map f
theorem bl_len (f : Nat → Int) (i : Nat) : (bl f i).length = i := by simp [bl]
theorem bl_succ (f : Nat → Int) (i : Nat) : bl f (i + 1) = bl f i ++ [f i] := by simp [bl, List.range_succ]
theorem bl_drop (f : Nat → Int) (i m : Nat) (h : i < m) : (bl f m).drop i = f i :: (bl f m).drop (i + 1) := by
  rw [List.drop_eq_getElem_cons (by rw [bl_len]; exact h)]
  congr 1
  simp [bl]
theorem bl_end (f : Nat → Int) (m : Nat) : (bl f m).drop m = [] := List.drop_eq_nil_of_le (by rw [bl_len]; exact Nat.le_refl _)
/-- a slice of bytes that came in -/
def ByIn (W : World) (A : Option Addr) (n : Nat) (f : Nat → Int) : Prop := ∀ i, i < n → ∃ b o, A = some ⟨b, o, none⟩ ∧ b < W.heap.size ∧ W.cell? ⟨b, o + i, none⟩ = some (.int .u8 (f i)) ∧ 0 ≤ f i ∧ f i < 256
theorem conv_in {W w : World} {A : Option Addr} {n m c : Nat} {f : Nat → Int} (h : ByIn W A n f) (hb : Below W.heap.size W w) (hm : m ≤ n) :
    (convert 22 9 (.slice A m c)).run Try.prog w = .ok (.string (strL (bl f m))) w := by
  cases hA : A with
  | none =>
    have h0 : m = 0 := by
      rcases Nat.eq_zero_or_pos m with e | e
      · exact e
      · obtain ⟨b, o, e, _⟩ := h 0 (by omega)
        rw [hA] at e; cases e
    subst h0
    exact run_convert_bytes_nil w 22 5 Try.underlying22 Try.underlying5 0 c 9 Try.underlying9
  | some ad =>
    have hl : (loadCells ad m).run Try.prog w = .ok (bys (bl f m)).toArray w := by
      have := run_loadCells_list (P := Try.prog) w ad (bys (bl f m)) (fun j u hu => by
        have hj : j < m := by
          rcases Nat.lt_or_ge j m with e | e
          · exact e
          · rw [List.getElem?_eq_none (by rw [bys_len, bl_len]; exact e)] at hu; cases hu
        obtain ⟨b, o, e, hlt, hc, _⟩ := h j (by omega)
        rw [hA] at e
        injection e with e
        subst e
        have e2 : Value.int .u8 (f j) = u := by
          unfold bys bl at hu
          rw [List.getElem?_map, List.getElem?_map, List.getElem?_range hj] at hu
          simpa using hu
        rw [Addr.add_lit, ← e2]
        exact (hb.cell (p := ⟨b, o + j, none⟩) hlt).trans hc)
      rwa [bys_len, bl_len] at this
    rw [run_convert_bytes_string w 22 9 5 _ m c Try.underlying22 Try.underlying5 Try.underlying9, run_bytesToString w _ m c _ hl]
    rw [foldl_push_bytes]
    simp [strL, strOfNums, ByteArray.empty, ByteArray.emptyWithCapacity]
    rfl
theorem send_more {b now : Int} {S : US} (h : 0 < S.goes.length) : sendT b now S = { S with goes := S.goes ++ [b] } := by
  unfold sendT
  cases hg : S.goes with
  | nil => rw [hg] at h; exact absurd h (by decide)
  | cons x L => rfl
end Go.Proofs.Ytmmikcpkaehooaa
