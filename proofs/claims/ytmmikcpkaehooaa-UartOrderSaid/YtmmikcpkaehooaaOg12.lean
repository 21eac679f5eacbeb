/-
  Chapter 12: UartOrder over slices of bytes that came in.
-/
import Derived.Test.YtmmikcpkaehooaaOp12
import Derived.Test.YtmmikcpkaehooaaOr12
namespace Go.Proofs.Ytmmikcpkaehooaa
open Go.RowKit Go.ChangeShapes Go.WideShapes Go.Deep
set_option linter.unusedVariables false
set_option linter.unusedSimpArgs false
/-- a slice of bytes, as it came in -/
def InBy (W : World) (a : Option Addr) (len cap : Nat) : Prop := ∃ f, ByIn W a len f ∧ len ≤ 9223372036854775807 ∧ len ≤ cap
section
variable {H : Type} {enc : TypeId × Value → H} {W : World}
theorem bys_of {fuel : Nat} {a : Option Addr} {len cap : Nat} {x : DataW H × List MemPlace} (hf : DataW.trod enc Try.prog W 0 (fun _ => true) true fuel 22 [.slice a len cap] = some x) : InBy W a len cap := by
  rcases open_ints Try.underlying22 Try.underlying5 (by kernel_rfl) hf with ⟨hcs, _⟩ | ⟨⟨b, o, s⟩, l, c, zs, hcs, _, hl, hm, hz, _, hcell, hwz⟩
  · injection hcs with e
    injection e with e1 e2 e3
    subst e2
    exact ⟨fun _ => 0, fun i h => absurd h (by omega), by omega, by omega⟩
  · injection hcs with e
    injection e with e1 e2 e3
    subst e1 e2 e3
    refine ⟨fun i => zs.getD i 0, fun i hi => ?_, by unfold maxLen at hm; omega, hl⟩
    simp only [if_true] at hz
    have h0 := hcell 0 (by omega)
    have hs := addr_plain h0
    have hs' : s = none := by simpa [Addr.add] using hs
    subst hs'
    have hci := hcell i (by omega)
    rw [Addr.add_mid] at hci
    have hli : i < zs.length := by omega
    have hw := hwz (zs.getD i 0) (by
      rw [List.getD_eq_getElem?_getD, List.getElem?_eq_getElem hli]
      exact List.getElem_mem hli)
    have hb := bounds_u8 hw
    exact ⟨b, o, rfl, block_lt_of_cell hci, hci, (by show 0 ≤ zs.getD i 0; omega), (by show zs.getD i 0 < 256; omega)⟩
end
theorem order_go (A A2 : Option Addr) (len cap len2 cap2 : Nat) (w : World) (h1 : InBy w A len cap) (h2 : InBy w A2 len2 cap2) :
    Calls Try.prog 3 #[.slice A len cap, .slice A2 len2 cap2] w (RetB (.bool true) w) := by
  obtain ⟨f, hf, l1, c1⟩ := h1
  obtain ⟨h, hh, l2, _⟩ := h2
  exact order_walk A A2 len cap len2 cap2 f h w (Lib.hid hf) (Lib.hid hh) l1 l2 c1
end Go.Proofs.Ytmmikcpkaehooaa
