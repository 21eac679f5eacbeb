/-
  Chapter 3: function 'greatest' of package decode, of whatever Kind.
-/
import Derived.Test.YtngfjjgejpkmmaaDoorRows
import Derived.Test.YtngfjjgejpkmmaaDoorTab
import Derived.WalkKit
import Derived.WalkSpells
import Derived.Below
import Derived.Lib.Hide
import Derived.Test.YtngfjjgejpkmmaaDoorGreA
import Derived.Test.YtngfjjgejpkmmaaDoorGreB
namespace Go.Proofs.YtngfjjgejpkmmaaDoor
open Go.RowKit
set_option linter.unusedVariables false
/-- greatest, of whatever Kind there is -/
theorem gre_any (k : Nat) (hk : k ≤ 77) (w : World) : Calls Tryd.prog 24 #[.int .i64 (k : Int)] w fun e w' => e = .returned (.agg #[.int .i64 0, .int .i64 (D.mS k : Int), .int .i64 (D.mT k : Int), .int .i64 (D.mD k : Int), .int .i64 (D.mH k : Int), .int .u32 (D.mI k : Int)]) ∧ Below w.heap.size w w' := by
  match k, hk with
  | 0, _ => exact gre0 w
  | 1, _ => exact gre1 w
  | 2, _ => exact gre2 w
  | 3, _ => exact gre3 w
  | 4, _ => exact gre4 w
  | 5, _ => exact gre5 w
  | 6, _ => exact gre6 w
  | 7, _ => exact gre7 w
  | 8, _ => exact gre8 w
  | 9, _ => exact gre9 w
  | 10, _ => exact gre10 w
  | 11, _ => exact gre11 w
  | 12, _ => exact gre12 w
  | 13, _ => exact gre13 w
  | 14, _ => exact gre14 w
  | 15, _ => exact gre15 w
  | 16, _ => exact gre16 w
  | 17, _ => exact gre17 w
  | 18, _ => exact gre18 w
  | 19, _ => exact gre19 w
  | 20, _ => exact gre20 w
  | 21, _ => exact gre21 w
  | 22, _ => exact gre22 w
  | 23, _ => exact gre23 w
  | 24, _ => exact gre24 w
  | 25, _ => exact gre25 w
  | 26, _ => exact gre26 w
  | 27, _ => exact gre27 w
  | 28, _ => exact gre28 w
  | 29, _ => exact gre29 w
  | 30, _ => exact gre30 w
  | 31, _ => exact gre31 w
  | 32, _ => exact gre32 w
  | 33, _ => exact gre33 w
  | 34, _ => exact gre34 w
  | 35, _ => exact gre35 w
  | 36, _ => exact gre36 w
  | 37, _ => exact gre37 w
  | 38, _ => exact gre38 w
  | 39, _ => exact gre39 w
  | 40, _ => exact gre40 w
  | 41, _ => exact gre41 w
  | 42, _ => exact gre42 w
  | 43, _ => exact gre43 w
  | 44, _ => exact gre44 w
  | 45, _ => exact gre45 w
  | 46, _ => exact gre46 w
  | 47, _ => exact gre47 w
  | 48, _ => exact gre48 w
  | 49, _ => exact gre49 w
  | 50, _ => exact gre50 w
  | 51, _ => exact gre51 w
  | 52, _ => exact gre52 w
  | 53, _ => exact gre53 w
  | 54, _ => exact gre54 w
  | 55, _ => exact gre55 w
  | 56, _ => exact gre56 w
  | 57, _ => exact gre57 w
  | 58, _ => exact gre58 w
  | 59, _ => exact gre59 w
  | 60, _ => exact gre60 w
  | 61, _ => exact gre61 w
  | 62, _ => exact gre62 w
  | 63, _ => exact gre63 w
  | 64, _ => exact gre64 w
  | 65, _ => exact gre65 w
  | 66, _ => exact gre66 w
  | 67, _ => exact gre67 w
  | 68, _ => exact gre68 w
  | 69, _ => exact gre69 w
  | 70, _ => exact gre70 w
  | 71, _ => exact gre71 w
  | 72, _ => exact gre72 w
  | 73, _ => exact gre73 w
  | 74, _ => exact gre74 w
  | 75, _ => exact gre75 w
  | 76, _ => exact gre76 w
  | 77, _ => exact gre77 w
  | n + 78, h => exact absurd h (by omega)
end Go.Proofs.YtngfjjgejpkmmaaDoor
