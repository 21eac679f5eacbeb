/-
  Chapter 6: the document's own Enter (pianolaref6).
-/
import Derived.Test.YtecddcbkgelcmaaR6
namespace Go.Proofs.Ytecddcbkgelcmaa
open Go.RowKit
set_option linter.unusedVariables false
section
variable {w : World} {g : Nat} {s : St}
/-- behind the code and EXL are noted: the place -/
theorem or_code (c x : Int) : bits .or .u32 (bits .andNot .u32 c 124) (bits .and .u32 x 124) = pu c 124 x := rfl

end
end Go.Proofs.Ytecddcbkgelcmaa
