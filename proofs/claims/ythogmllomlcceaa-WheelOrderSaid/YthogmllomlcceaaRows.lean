/-
  No cell of these rows narrows 'for every input' (looked for: loops, veiled, ifaces, maps, wideKeys, modest, calm, conditions, laid).
  DERIVED. THE GIVEN ROWS OF THIS SEAT. 4 by the template 'for every input the law returns true; each argument reads behind the call as it read before'; 0 by the template 'total and deterministic' (their statements: YthogmllomlcceaaTotals.lean).
  GIVEN WITH THE SEED: the statements are not yours to turn. If you find one false, say at which input.
  Laid BY PROGRAM, IN A SANDBOX (cutbox-rows.mjs): the forced cells as the released guide's own fill.sh prints them over the translation 4519388779bf7c9a… (all of the seat's roots in one cut). By AI agents, Wed Nov 11 2026. No macro, syntax, notation, axiom, sorry.
-/
import Derived.Test.YthogmllomlcceaaChecked
import GoSem.Claim
import GoSem.ClaimJoined
import GoSem.ClaimMapViews
import Derived.JoinedTies
import Derived.KernelRfl
namespace Go.Proofs.Ythogmllomlcceaa
/- THE CELL 'sum', in the pinned program and in every row, IS THE sha256 OF THE DUMP (.gsa) THAT YthogmllomlcceaaProg.lean LOADS. Nothing in Lean hashes anything: it is a label: what it is worth is what the hold of that sum in a sandbox is worth. -/
noncomputable def Try.pinned : Pinned := { name := "ythogmllomlcceaa", sum := "4519388779bf7c9a853b58af05037f439beceaa0bbce80a14b56c8501cfed00d", checked := Try.checked }
namespace Rows
def none {H : Type} : Left H := { results := [], args := [] }

/-- 'pianolalaw9.WheelNumbers': WHATEVER THE INPUT: true; the input reads as it did. -/
def wheelNumbersSpec : ChangeSpec := { name := "wheelNumbers", fn := fun _ => fun
  | [] => { results := [.lit (.bool true)], args := [] }
  | _ => none }
def wheelNumbersRow : OpenClaim := { program := "ythogmllomlcceaa", sum := "4519388779bf7c9a853b58af05037f439beceaa0bbce80a14b56c8501cfed00d", func := "pianola/pianolalaw9.WheelNumbers", spec := "wheelNumbers", inPlace := ["slices.overlaps[pianola/api.Event]"], apart := false }
def WheelNumbersSaid : Prop := wheelNumbersRow.holds Try.pinned (OpenSpec.ofChange wheelNumbersSpec)

/-- ITS FALSE NEIGHBOUR: 'it returns false'. Refute it at one input. -/
def wheelNumbersWrong : ChangeSpec := { name := "wheelNumbers", fn := fun _ => fun
  | [] => { results := [.lit (.bool false)], args := [] }
  | _ => none }
def WheelNumbersWrongFalsely : Prop := wheelNumbersRow.holds Try.pinned (OpenSpec.ofChange wheelNumbersWrong)

/-- 'pianolalaw9.WheelPlays': WHATEVER THE INPUT: true; the input reads as it did. -/
def wheelPlaysSpec : ChangeSpec := { name := "wheelPlays", fn := fun _ => fun
  | [d] => { results := [.lit (.bool true)], args := [d] }
  | _ => none }
def wheelPlaysRow : OpenClaim := { program := "ythogmllomlcceaa", sum := "4519388779bf7c9a853b58af05037f439beceaa0bbce80a14b56c8501cfed00d", func := "pianola/pianolalaw9.WheelPlays", spec := "wheelPlays", inPlace := ["slices.overlaps[pianola/api.Event]"], apart := false }
def WheelPlaysSaid : Prop := wheelPlaysRow.holds Try.pinned (OpenSpec.ofChange wheelPlaysSpec)

/-- ITS FALSE NEIGHBOUR: 'it returns false'. Refute it at one input. -/
def wheelPlaysWrong : ChangeSpec := { name := "wheelPlays", fn := fun _ => fun
  | [d] => { results := [.lit (.bool false)], args := [d] }
  | _ => none }
def WheelPlaysWrongFalsely : Prop := wheelPlaysRow.holds Try.pinned (OpenSpec.ofChange wheelPlaysWrong)

/-- 'pianolalaw9.WheelOrder': WHATEVER THE INPUT: true; the input reads as it did. -/
def wheelOrderSpec : ChangeSpec := { name := "wheelOrder", fn := fun _ => fun
  | [d] => { results := [.lit (.bool true)], args := [d] }
  | _ => none }
def wheelOrderRow : OpenClaim := { program := "ythogmllomlcceaa", sum := "4519388779bf7c9a853b58af05037f439beceaa0bbce80a14b56c8501cfed00d", func := "pianola/pianolalaw9.WheelOrder", spec := "wheelOrder", inPlace := ["slices.overlaps[pianola/api.Event]"], apart := false }
def WheelOrderSaid : Prop := wheelOrderRow.holds Try.pinned (OpenSpec.ofChange wheelOrderSpec)

/-- ITS FALSE NEIGHBOUR: 'it returns false'. Refute it at one input. -/
def wheelOrderWrong : ChangeSpec := { name := "wheelOrder", fn := fun _ => fun
  | [d] => { results := [.lit (.bool false)], args := [d] }
  | _ => none }
def WheelOrderWrongFalsely : Prop := wheelOrderRow.holds Try.pinned (OpenSpec.ofChange wheelOrderWrong)

/-- 'pianolalaw9.WheelAnew': WHATEVER THE INPUT: true; the input reads as it did. -/
def wheelAnewSpec : ChangeSpec := { name := "wheelAnew", fn := fun _ => fun
  | [d1, d2, d3] => { results := [.lit (.bool true)], args := [d1, d2, d3] }
  | _ => none }
def wheelAnewRow : OpenClaim := { program := "ythogmllomlcceaa", sum := "4519388779bf7c9a853b58af05037f439beceaa0bbce80a14b56c8501cfed00d", func := "pianola/pianolalaw9.WheelAnew", spec := "wheelAnew", inPlace := ["slices.overlaps[pianola/api.Event]"], apart := false }
def WheelAnewSaid : Prop := wheelAnewRow.holds Try.pinned (OpenSpec.ofChange wheelAnewSpec)

/-- ITS FALSE NEIGHBOUR: 'it returns false'. Refute it at one input. -/
def wheelAnewWrong : ChangeSpec := { name := "wheelAnew", fn := fun _ => fun
  | [d1, d2, d3] => { results := [.lit (.bool false)], args := [d1, d2, d3] }
  | _ => none }
def WheelAnewWrongFalsely : Prop := wheelAnewRow.holds Try.pinned (OpenSpec.ofChange wheelAnewWrong)

/- THE SECOND FORM. 'bulk': how many values and letters a reading holds, each counted each time it is reached (what is shared counts as often as it is met; a slice's spare places count too). A statement '..UptoSaid' is the law's where the arguments, and the package variables that the reading takes, are together of bulk at most 1048576: NARROWER than '..Said'. Prove '..Said' where nothing that the law and all that it calls make is longer than what came in: it says more and counts as full. Else prove '..UptoSaid'. A law counts once. -/
mutual
def uptoBulk {H : Type} : DataW H → Nat
  | .lit (.string bytes) => bytes.length + 1
  | .lit _ => 1
  | .nil => 1
  | .ptr d => uptoBulk d + 1
  | .slice elems spare => uptoBulkAll elems + uptoBulkAll spare + 1
  | .agg parts => uptoBulkAll parts + 1
  | .iface _ d => uptoBulk d + 1
  | .map entries => uptoBulkEntries entries + 1
  | .held _ => 1
def uptoBulkAll {H : Type} : List (DataW H) → Nat
  | [] => 0
  | d :: r => uptoBulk d + uptoBulkAll r
def uptoBulkEntries {H : Type} : List (Lit × DataW H) → Nat
  | [] => 0
  | x :: r => uptoBulkEntry x + uptoBulkEntries r
def uptoBulkEntry {H : Type} : Lit × DataW H → Nat
  | (.string bytes, d) => bytes.length + uptoBulk d + 1
  | (_, d) => uptoBulk d + 1
 end
def uptoSmall : (H : Type) → List (DataW H) → Bool := fun _ ds => decide (uptoBulkAll ds ≤ 1048576)
def OpenSpec.upto (s : _root_.Go.ChangeSpec) : _root_.Go.OpenSpec := { _root_.Go.OpenSpec.ofChange s with cond := some uptoSmall }

/-- 'pianolalaw9.WheelNumbers', WHERE WHAT IT READS IS OF BULK AT MOST 1048576: true; the input reads as it did. -/
def wheelNumbersUptoRow : OpenClaim := { program := "ythogmllomlcceaa", sum := "4519388779bf7c9a853b58af05037f439beceaa0bbce80a14b56c8501cfed00d", func := "pianola/pianolalaw9.WheelNumbers", spec := "wheelNumbers", inPlace := ["slices.overlaps[pianola/api.Event]"], apart := false, narrowed := true }
def WheelNumbersUptoSaid : Prop := wheelNumbersUptoRow.holds Try.pinned (OpenSpec.upto wheelNumbersSpec)

/-- 'pianolalaw9.WheelPlays', WHERE WHAT IT READS IS OF BULK AT MOST 1048576: true; the input reads as it did. -/
def wheelPlaysUptoRow : OpenClaim := { program := "ythogmllomlcceaa", sum := "4519388779bf7c9a853b58af05037f439beceaa0bbce80a14b56c8501cfed00d", func := "pianola/pianolalaw9.WheelPlays", spec := "wheelPlays", inPlace := ["slices.overlaps[pianola/api.Event]"], apart := false, narrowed := true }
def WheelPlaysUptoSaid : Prop := wheelPlaysUptoRow.holds Try.pinned (OpenSpec.upto wheelPlaysSpec)

/-- 'pianolalaw9.WheelOrder', WHERE WHAT IT READS IS OF BULK AT MOST 1048576: true; the input reads as it did. -/
def wheelOrderUptoRow : OpenClaim := { program := "ythogmllomlcceaa", sum := "4519388779bf7c9a853b58af05037f439beceaa0bbce80a14b56c8501cfed00d", func := "pianola/pianolalaw9.WheelOrder", spec := "wheelOrder", inPlace := ["slices.overlaps[pianola/api.Event]"], apart := false, narrowed := true }
def WheelOrderUptoSaid : Prop := wheelOrderUptoRow.holds Try.pinned (OpenSpec.upto wheelOrderSpec)

/-- 'pianolalaw9.WheelAnew', WHERE WHAT IT READS IS OF BULK AT MOST 1048576: true; the input reads as it did. -/
def wheelAnewUptoRow : OpenClaim := { program := "ythogmllomlcceaa", sum := "4519388779bf7c9a853b58af05037f439beceaa0bbce80a14b56c8501cfed00d", func := "pianola/pianolalaw9.WheelAnew", spec := "wheelAnew", inPlace := ["slices.overlaps[pianola/api.Event]"], apart := false, narrowed := true }
def WheelAnewUptoSaid : Prop := wheelAnewUptoRow.holds Try.pinned (OpenSpec.upto wheelAnewSpec)

end Rows
end Go.Proofs.Ythogmllomlcceaa
