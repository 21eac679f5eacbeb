/-
  No cell of these rows narrows 'for every input' (looked for: loops, veiled, ifaces, maps, wideKeys, modest, calm, conditions, laid).
  DERIVED. THE GIVEN ROWS OF THIS SEAT. 4 by the template 'for every input the law returns true; each argument reads behind the call as it read before'; 0 by the template 'total and deterministic' (their statements: YtamaonkepfkgnaaTotals.lean).
  GIVEN WITH THE SEED: the statements are not yours to turn. If you find one false, say at which input.
  Laid BY PROGRAM, IN A SANDBOX (cutbox-rows.mjs): the forced cells as the released guide's own fill.sh prints them over the translation 9ec9e09695b104f3… (all of the seat's roots in one cut). By AI agents, Wed Nov 11 2026. No macro, syntax, notation, axiom, sorry.
-/
import Derived.Test.YtamaonkepfkgnaaChecked
import GoSem.Claim
import GoSem.ClaimJoined
import GoSem.ClaimMapViews
import Derived.JoinedTies
import Derived.KernelRfl
namespace Go.Proofs.Ytamaonkepfkgnaa
/- THE CELL 'sum', in the pinned program and in every row, IS THE sha256 OF THE DUMP (.gsa) THAT YtamaonkepfkgnaaProg.lean LOADS. Nothing in Lean hashes anything: it is a label: what it is worth is what the hold of that sum in a sandbox is worth. -/
noncomputable def Try.pinned : Pinned := { name := "ytamaonkepfkgnaa", sum := "9ec9e09695b104f382165978c77633903d4fddde7d5599af50dc7c64cd269a0f", checked := Try.checked }
namespace Rows
def none {H : Type} : Left H := { results := [], args := [] }

/-- 'pianolalaw13.DmaNumbers': WHATEVER THE INPUT: true; the input reads as it did. -/
def dmaNumbersSpec : ChangeSpec := { name := "dmaNumbers", fn := fun _ => fun
  | [] => { results := [.lit (.bool true)], args := [] }
  | _ => none }
def dmaNumbersRow : OpenClaim := { program := "ytamaonkepfkgnaa", sum := "9ec9e09695b104f382165978c77633903d4fddde7d5599af50dc7c64cd269a0f", func := "pianola/pianolalaw13.DmaNumbers", spec := "dmaNumbers", inPlace := ["slices.overlaps[pianola/api.Event]"], apart := false }
def DmaNumbersSaid : Prop := dmaNumbersRow.holds Try.pinned (OpenSpec.ofChange dmaNumbersSpec)

/-- ITS FALSE NEIGHBOUR: 'it returns false'. Refute it at one input. -/
def dmaNumbersWrong : ChangeSpec := { name := "dmaNumbers", fn := fun _ => fun
  | [] => { results := [.lit (.bool false)], args := [] }
  | _ => none }
def DmaNumbersWrongFalsely : Prop := dmaNumbersRow.holds Try.pinned (OpenSpec.ofChange dmaNumbersWrong)

/-- 'pianolalaw13.DmaPlays': WHATEVER THE INPUT: true; the input reads as it did. -/
def dmaPlaysSpec : ChangeSpec := { name := "dmaPlays", fn := fun _ => fun
  | [d] => { results := [.lit (.bool true)], args := [d] }
  | _ => none }
def dmaPlaysRow : OpenClaim := { program := "ytamaonkepfkgnaa", sum := "9ec9e09695b104f382165978c77633903d4fddde7d5599af50dc7c64cd269a0f", func := "pianola/pianolalaw13.DmaPlays", spec := "dmaPlays", inPlace := ["slices.overlaps[pianola/api.Event]"], apart := false }
def DmaPlaysSaid : Prop := dmaPlaysRow.holds Try.pinned (OpenSpec.ofChange dmaPlaysSpec)

/-- ITS FALSE NEIGHBOUR: 'it returns false'. Refute it at one input. -/
def dmaPlaysWrong : ChangeSpec := { name := "dmaPlays", fn := fun _ => fun
  | [d] => { results := [.lit (.bool false)], args := [d] }
  | _ => none }
def DmaPlaysWrongFalsely : Prop := dmaPlaysRow.holds Try.pinned (OpenSpec.ofChange dmaPlaysWrong)

/-- 'pianolalaw13.DmaMoves': WHATEVER THE INPUT: true; the input reads as it did. -/
def dmaMovesSpec : ChangeSpec := { name := "dmaMoves", fn := fun _ => fun
  | [d1, d2, d3, d4] => { results := [.lit (.bool true)], args := [d1, d2, d3, d4] }
  | _ => none }
def dmaMovesRow : OpenClaim := { program := "ytamaonkepfkgnaa", sum := "9ec9e09695b104f382165978c77633903d4fddde7d5599af50dc7c64cd269a0f", func := "pianola/pianolalaw13.DmaMoves", spec := "dmaMoves", inPlace := ["slices.overlaps[pianola/api.Event]"], apart := false }
def DmaMovesSaid : Prop := dmaMovesRow.holds Try.pinned (OpenSpec.ofChange dmaMovesSpec)

/-- ITS FALSE NEIGHBOUR: 'it returns false'. Refute it at one input. -/
def dmaMovesWrong : ChangeSpec := { name := "dmaMoves", fn := fun _ => fun
  | [d1, d2, d3, d4] => { results := [.lit (.bool false)], args := [d1, d2, d3, d4] }
  | _ => none }
def DmaMovesWrongFalsely : Prop := dmaMovesRow.holds Try.pinned (OpenSpec.ofChange dmaMovesWrong)

/-- 'pianolalaw13.DmaErrors': WHATEVER THE INPUT: true; the input reads as it did. -/
def dmaErrorsSpec : ChangeSpec := { name := "dmaErrors", fn := fun _ => fun
  | [d1, d2, d3] => { results := [.lit (.bool true)], args := [d1, d2, d3] }
  | _ => none }
def dmaErrorsRow : OpenClaim := { program := "ytamaonkepfkgnaa", sum := "9ec9e09695b104f382165978c77633903d4fddde7d5599af50dc7c64cd269a0f", func := "pianola/pianolalaw13.DmaErrors", spec := "dmaErrors", inPlace := ["slices.overlaps[pianola/api.Event]"], apart := false }
def DmaErrorsSaid : Prop := dmaErrorsRow.holds Try.pinned (OpenSpec.ofChange dmaErrorsSpec)

/-- ITS FALSE NEIGHBOUR: 'it returns false'. Refute it at one input. -/
def dmaErrorsWrong : ChangeSpec := { name := "dmaErrors", fn := fun _ => fun
  | [d1, d2, d3] => { results := [.lit (.bool false)], args := [d1, d2, d3] }
  | _ => none }
def DmaErrorsWrongFalsely : Prop := dmaErrorsRow.holds Try.pinned (OpenSpec.ofChange dmaErrorsWrong)

/- THE SECOND FORM. 'bulk': how many values and letters a reading holds, each counted each time it is reached (what is shared counts as often as it is met; a slice's spare places count too). A statement '..UptoSaid' is the law's where the arguments, and the package variables that the reading takes, are together of bulk at most 1048576: NARROWER than '..Said'. Prove '..Said' where nothing that the law and all that it calls make is longer than what came in: it says more and counts as full. Else prove '..UptoSaid'. A law counts once. -/
mutual
def uptoBulk {H : Type} : DataW H → Nat
  | .lit (.string bytes) => bytes.length + 1
  | .lit _ => 1
  | .nil => 1
  | .ptr d => uptoBulk d + 1
  | .slice elems spare => uptoBulkAll elems + uptoBulkAll spare + 1
  | .agg parts => uptoBulkAll parts + 1
  | .iface _ d => uptoBulk d + 1
  | .map entries => uptoBulkEntries entries + 1
  | .held _ => 1
def uptoBulkAll {H : Type} : List (DataW H) → Nat
  | [] => 0
  | d :: r => uptoBulk d + uptoBulkAll r
def uptoBulkEntries {H : Type} : List (Lit × DataW H) → Nat
  | [] => 0
  | x :: r => uptoBulkEntry x + uptoBulkEntries r
def uptoBulkEntry {H : Type} : Lit × DataW H → Nat
  | (.string bytes, d) => bytes.length + uptoBulk d + 1
  | (_, d) => uptoBulk d + 1
 end
def uptoSmall : (H : Type) → List (DataW H) → Bool := fun _ ds => decide (uptoBulkAll ds ≤ 1048576)
def OpenSpec.upto (s : _root_.Go.ChangeSpec) : _root_.Go.OpenSpec := { _root_.Go.OpenSpec.ofChange s with cond := some uptoSmall }

/-- 'pianolalaw13.DmaNumbers', WHERE WHAT IT READS IS OF BULK AT MOST 1048576: true; the input reads as it did. -/
def dmaNumbersUptoRow : OpenClaim := { program := "ytamaonkepfkgnaa", sum := "9ec9e09695b104f382165978c77633903d4fddde7d5599af50dc7c64cd269a0f", func := "pianola/pianolalaw13.DmaNumbers", spec := "dmaNumbers", inPlace := ["slices.overlaps[pianola/api.Event]"], apart := false, narrowed := true }
def DmaNumbersUptoSaid : Prop := dmaNumbersUptoRow.holds Try.pinned (OpenSpec.upto dmaNumbersSpec)

/-- 'pianolalaw13.DmaPlays', WHERE WHAT IT READS IS OF BULK AT MOST 1048576: true; the input reads as it did. -/
def dmaPlaysUptoRow : OpenClaim := { program := "ytamaonkepfkgnaa", sum := "9ec9e09695b104f382165978c77633903d4fddde7d5599af50dc7c64cd269a0f", func := "pianola/pianolalaw13.DmaPlays", spec := "dmaPlays", inPlace := ["slices.overlaps[pianola/api.Event]"], apart := false, narrowed := true }
def DmaPlaysUptoSaid : Prop := dmaPlaysUptoRow.holds Try.pinned (OpenSpec.upto dmaPlaysSpec)

/-- 'pianolalaw13.DmaMoves', WHERE WHAT IT READS IS OF BULK AT MOST 1048576: true; the input reads as it did. -/
def dmaMovesUptoRow : OpenClaim := { program := "ytamaonkepfkgnaa", sum := "9ec9e09695b104f382165978c77633903d4fddde7d5599af50dc7c64cd269a0f", func := "pianola/pianolalaw13.DmaMoves", spec := "dmaMoves", inPlace := ["slices.overlaps[pianola/api.Event]"], apart := false, narrowed := true }
def DmaMovesUptoSaid : Prop := dmaMovesUptoRow.holds Try.pinned (OpenSpec.upto dmaMovesSpec)

/-- 'pianolalaw13.DmaErrors', WHERE WHAT IT READS IS OF BULK AT MOST 1048576: true; the input reads as it did. -/
def dmaErrorsUptoRow : OpenClaim := { program := "ytamaonkepfkgnaa", sum := "9ec9e09695b104f382165978c77633903d4fddde7d5599af50dc7c64cd269a0f", func := "pianola/pianolalaw13.DmaErrors", spec := "dmaErrors", inPlace := ["slices.overlaps[pianola/api.Event]"], apart := false, narrowed := true }
def DmaErrorsUptoSaid : Prop := dmaErrorsUptoRow.holds Try.pinned (OpenSpec.upto dmaErrorsSpec)

end Rows
end Go.Proofs.Ytamaonkepfkgnaa
