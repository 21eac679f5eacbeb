/-
  Chapter 14: a slice of bytes that came in, read as its cells.
-/
import Derived.Test.YtifhnidcdfpabaaOp13
import Derived.Test.YtifhnidcdfpabaaWi14
namespace Go.Proofs.Ytifhnidcdfpabaa
open Go.RowKit Go.ChangeShapes Go.WideShapes Go.Deep
set_option linter.unusedVariables false
set_option linter.unusedSimpArgs false
section
variable {H : Type} {enc : TypeId × Value → H} {W : World}
theorem by_of {fuel : Nat} {a : Option Addr} {len cap : Nat} {x : DataW H × List MemPlace} (hf : DataW.trod enc Try.prog W 0 (fun _ => true) true fuel 28 [.slice a len cap] = some x) : InBy W a len cap := by
  rcases open_ints Try.underlying28 Try.underlying5 (by kernel_rfl) hf with ⟨hcs, _⟩ | ⟨⟨b, o, s⟩, l, c, zs, hcs, _, hl, hm, hz, _, hcell, hwz⟩
  · injection hcs with e
    injection e with e1 e2 e3
    subst e1 e2
    exact ⟨fun _ => 0, by omega, by omega, fun m hm => by
      obtain rfl : m = 0 := by omega
      exact .inl ⟨_, rfl, rfl⟩⟩
  · injection hcs with e
    injection e with e1 e2 e3
    subst e1 e2 e3
    refine ⟨fun i => zs.getD i 0, hl, by unfold maxLen at hm; omega, fun m hml => .inr ⟨⟨b, o, s⟩, _, rfl, by omega, fun hp => ?_, fun i hi => ?_⟩⟩
    · simp only [if_true] at hz
      have h0 := hcell 0 (by omega)
      have hs := addr_plain h0
      have hb := block_lt_of_cell h0
      rw [add_block] at hb
      exact ⟨by simpa [Addr.add] using hs, hb⟩
    · simp only [if_true] at hz
      have hci := hcell i (by omega)
      have hli : i < zs.length := by omega
      have hw := hwz (zs.getD i 0) (by
        rw [List.getD_eq_getElem?_getD, List.getElem?_eq_getElem hli]
        exact List.getElem_mem hli)
      have hb := bounds_u8 hw
      exact ⟨hci, (by show 0 ≤ zs.getD i 0; omega), (by show zs.getD i 0 ≤ 255; omega)⟩
end
end Go.Proofs.Ytifhnidcdfpabaa
