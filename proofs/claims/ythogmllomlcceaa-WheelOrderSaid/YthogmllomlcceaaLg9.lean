/-
  Chapter 9: a list of times that came in, read as its cells; WheelOrder over it.
-/
import Derived.Test.YthogmllomlcceaaOr9
import Derived.Test.YthogmllomlcceaaOp9
namespace Go.Proofs.Ythogmllomlcceaa
open Go.RowKit Go.ChangeShapes Go.WideShapes Go.Deep
set_option linter.unusedVariables false
set_option linter.unusedSimpArgs false
section
variable {H : Type} {enc : TypeId × Value → H} {W : World}
theorem longs_at {fuel : Nat} {a : Option Addr} {len cap : Nat} {x : DataW H × List MemPlace} (hf : DataW.trod enc Try.prog W 0 (fun _ => true) true fuel 28 [.slice a len cap] = some x) : (∃ Z, LongAt W W.heap.size a len Z) ∧ len ≤ 9223372036854775807 := by
  obtain ⟨a', len', cap', e, hl, h⟩ := ints_any Try.underlying28 Try.underlying2 (by kernel_rfl) hf
  injection e with e1 e2 e3
  subst e1 e2 e3
  refine ⟨?_, hl⟩
  have h2 : ∀ i, ∃ z : Int, i < len → ∃ b o : Nat, a = some ⟨b, o, none⟩ ∧ b < W.heap.size ∧ W.cell? ⟨b, o + i, none⟩ = some (.int .i64 z) ∧ -9223372036854775808 ≤ z ∧ z ≤ 9223372036854775807 := by
    intro i
    by_cases hi : i < len
    · obtain ⟨b, o, n, e, hb, hc, hw⟩ := h i hi
      exact ⟨n, fun _ => ⟨b, o, e, hb, hc, rngi hw⟩⟩
    · exact ⟨0, fun e => absurd e hi⟩
  obtain ⟨Z, hZ⟩ := Classical.axiomOfChoice h2
  exact ⟨Z, fun i hi => hZ i hi⟩
end
theorem order_go (a : Option Addr) (len cap : Nat) (W : World) (h : (∃ Z, LongAt W W.heap.size a len Z) ∧ len ≤ 9223372036854775807) : Calls Try.prog 5 #[.slice a len cap] W (RetB (.bool true) W) := by
  obtain ⟨⟨Z, hZ⟩, hl⟩ := h
  exact order_walk a len cap Z W hZ hl
end Go.Proofs.Ythogmllomlcceaa
