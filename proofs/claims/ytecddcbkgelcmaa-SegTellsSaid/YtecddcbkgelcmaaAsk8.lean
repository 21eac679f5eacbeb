/-
  Chapter 8: a list of words that came in, read as its cells.
-/
import Derived.Test.YtecddcbkgelcmaaTe8
import Derived.Test.YtecddcbkgelcmaaOpen6
namespace Go.Proofs.Ytecddcbkgelcmaa
open Go.RowKit Go.ChangeShapes Go.WideShapes Go.Deep
set_option linter.unusedVariables false
section
variable {H : Type} {enc : TypeId × Value → H} {W : World}
theorem words_at {fuel : Nat} {a : Option Addr} {len cap : Nat} {x : DataW H × List MemPlace} (hf : DataW.trod enc Try.prog W 0 (fun _ => true) true fuel 23 [.slice a len cap] = some x) : WordsAt W W.heap.size a len ∧ len ≤ 9223372036854775807 := by
  obtain ⟨a', len', cap', e, hl, h⟩ := words_of hf
  injection e with e1 e2 e3
  subst e1 e2 e3
  exact ⟨h, hl⟩
end
end Go.Proofs.Ytecddcbkgelcmaa
