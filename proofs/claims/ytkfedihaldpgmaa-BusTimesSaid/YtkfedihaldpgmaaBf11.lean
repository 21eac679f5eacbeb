/-
  Chapter 11, from chapter 9's text: as a part of the document's bus: the document's own wheel: Cancel, At.
-/
import Derived.Test.YtkfedihaldpgmaaBw11
import Derived.Test.YtkfedihaldpgmaaTk9
namespace Go.Proofs.Ytkfedihaldpgmaa
open Go.RowKit
set_option linter.unusedVariables false
set_option linter.unusedSimpArgs false
section
variable {C : Nat → Value} {w : World} {g : Nat} {v : Value} {L : List Ev} {a : Int}
theorem Sh.take {b c n : Nat} (h : Ow w (.slice (some ⟨b, 0, none⟩) n c) L) (i : Nat) (hi : i ≤ L.length) : Sh w (.slice (some ⟨b, 0, none⟩) i c) (L.take i) := by
  obtain ⟨cs, hR, ht, hn⟩ := Rw.of h
  refine .inr ⟨b, 0, c, by rw [List.length_take, Nat.min_eq_left hi], fun j u hu => ?_⟩
  rw [evs_take, List.getElem?_take] at hu
  rw [Nat.zero_add, hR.cell]
  split at hu
  · rw [← ht, List.getElem?_take] at hu
    split at hu
    · exact hu
    · cases hu
  · cases hu
theorem Sh.drop {b c n o : Nat} (h : Ow w (.slice (some ⟨b, 0, none⟩) n c) L) (i k : Nat) (hi : i ≤ L.length) (ho : i < L.length → o = i * 3) : Sh w (.slice (some ⟨b, o, none⟩) (L.length - i) k) (L.drop i) := by
  obtain ⟨cs, hR, ht, hn⟩ := Rw.of h
  refine .inr ⟨b, o, k, by rw [List.length_drop], fun j u hu => ?_⟩
  have hj : j < (evs (L.drop i)).length := (List.getElem?_eq_some_iff.1 hu).1
  rw [evs_len, List.length_drop] at hj
  rw [evs_drop, List.getElem?_drop] at hu
  rw [ho (by omega), hR.cell]
  rw [← ht, List.getElem?_take] at hu
  split at hu
  · exact hu
  · cases hu
theorem Ow.empty (w : World) : Ow (w.alloc (.cells #[] 50)) (.slice (some ⟨w.heap.size, 0, none⟩) 0 0) [] := World.ownsRow_made w #[] 0 (Nat.zero_le _) (by unfold maxLen; omega) rfl

end
end Go.Proofs.Ytkfedihaldpgmaa
