/-
  NARROWER THAN 'FOR EVERY INPUT', by the rows' own cells (each row's printed sentence says how): DecodeNumbers: laid · DecodeTells: laid · DecodeBack: laid · DecodeFields: laid.
  DERIVED. THE GIVEN ROWS OF THIS SEAT. 4 by the template 'for every input the law returns true; each argument reads behind the call as it read before'; 0 by the template 'total and deterministic' (their statements: YtngfjjgejpkmmaaDoorTotals.lean).
  GIVEN WITH THE SEED: the statements are not yours to turn. If you find one false, say at which input.
  Laid BY PROGRAM, IN A SANDBOX (cutbox-rows.mjs): the forced cells as the released guide's own fill.sh prints them over the translation bd5b8595e1bb9039… (all of the seat's roots in one cut). By AI agents, Wed Nov 11 2026. No macro, syntax, notation, axiom, sorry.
-/
import Derived.Test.YtngfjjgejpkmmaaDoorChecked
import GoSem.Claim
import GoSem.ClaimJoined
import GoSem.ClaimMapViews
import Derived.JoinedTies
import Derived.KernelRfl
namespace Go.Proofs.YtngfjjgejpkmmaaDoor
/- THE CELL 'sum', in the pinned program and in every row, IS THE sha256 OF THE DUMP (.gsa) THAT YtngfjjgejpkmmaaDoorProg.lean LOADS. Nothing in Lean hashes anything: it is a label: what it is worth is what the hold of that sum in a sandbox is worth. -/
noncomputable def Tryd.pinned : Pinned := { name := "ytngfjjgejpkmmaadoor", sum := "bd5b8595e1bb9039da6dfee1a4a21fefa4fa890c66a546a5d533f2f015817802", checked := Tryd.checked }
namespace Rows
def none {H : Type} : Left H := { results := [], args := [] }

/- WHAT THE LISTED PACKAGE-LEVEL VARIABLES READ AS WHEN THE CALL BEGINS. Each datum BY PROGRAM (the guide's laid-datum.mjs) off the statement by which the dump's own 'gosem.cut.vars' lays the variable. In a bare row this is a premise. The card (YtngfjjgejpkmmaaDoorCards.lean) ties it to the program's text. -/
def laid_pianola_decode_keys {H : Type} : DataW H := .agg [.lit (.int .u32 0), .lit (.int .u32 0), .lit (.int .u32 2), .lit (.int .u32 3), .lit (.int .u32 4), .lit (.int .u32 6), .lit (.int .u32 7), .lit (.int .u32 8), .lit (.int .u32 9), .lit (.int .u32 10), .lit (.int .u32 11), .lit (.int .u32 12), .lit (.int .u32 13), .lit (.int .u32 15), .lit (.int .u32 16), .lit (.int .u32 17), .lit (.int .u32 18), .lit (.int .u32 19), .lit (.int .u32 24), .lit (.int .u32 25), .lit (.int .u32 26), .lit (.int .u32 27), .lit (.int .u32 32), .lit (.int .u32 33), .lit (.int .u32 34), .lit (.int .u32 35), .lit (.int .u32 36), .lit (.int .u32 37), .lit (.int .u32 38), .lit (.int .u32 39), .lit (.int .u32 42), .lit (.int .u32 43), .lit (.int .u32 48), .lit (.int .u32 50), .lit (.int .u32 52), .lit (.int .u32 54), .lit (.int .u32 67108864), .lit (.int .u32 67174400), .lit (.int .u32 68157440), .lit (.int .u32 68222976), .lit (.int .u32 134217728), .lit (.int .u32 201326592), .lit (.int .u32 268435456), .lit (.int .u32 335544320), .lit (.int .u32 402653184), .lit (.int .u32 469762048), .lit (.int .u32 536870912), .lit (.int .u32 603979776), .lit (.int .u32 671088640), .lit (.int .u32 738197504), .lit (.int .u32 805306368), .lit (.int .u32 872415232), .lit (.int .u32 939524096), .lit (.int .u32 1006632960), .lit (.int .u32 1073741824), .lit (.int .u32 1082130432), .lit (.int .u32 1107296257), .lit (.int .u32 1107296258), .lit (.int .u32 1107296262), .lit (.int .u32 1107296264), .lit (.int .u32 1107296280), .lit (.int .u32 1107296288), .lit (.int .u32 1140850688), .lit (.int .u32 1879048194), .lit (.int .u32 1879048224), .lit (.int .u32 1879048225), .lit (.int .u32 2147483648), .lit (.int .u32 2214592512), .lit (.int .u32 2348810240), .lit (.int .u32 2415919104), .lit (.int .u32 2483027968), .lit (.int .u32 2684354560), .lit (.int .u32 2751463424), .lit (.int .u32 2885681152), .lit (.int .u32 3221225472), .lit (.int .u32 3758096384), .lit (.int .u32 3154116608), .lit (.int .u32 3422552064)]
def laid_pianola_decode_groups {H : Type} : DataW H := .slice [.agg [.lit (.int .i64 1), .lit (.int .i64 35), .lit (.int .u32 4227858432), .lit (.int .u32 63)], .agg [.lit (.int .i64 36), .lit (.int .i64 39), .lit (.int .u32 4227858432), .lit (.int .u32 2031616)], .agg [.lit (.int .i64 40), .lit (.int .i64 53), .lit (.int .u32 0), .lit (.int .u32 4227858432)], .agg [.lit (.int .i64 54), .lit (.int .i64 55), .lit (.int .u32 4227858432), .lit (.int .u32 65011712)], .agg [.lit (.int .i64 56), .lit (.int .i64 61), .lit (.int .u32 4292870144), .lit (.int .u32 63)], .agg [.lit (.int .i64 62), .lit (.int .i64 62), .lit (.int .u32 0), .lit (.int .u32 4227858432)], .agg [.lit (.int .i64 63), .lit (.int .i64 65), .lit (.int .u32 4227858432), .lit (.int .u32 63)], .agg [.lit (.int .i64 66), .lit (.int .i64 77), .lit (.int .u32 0), .lit (.int .u32 4227858432)]] []

/-- 'pianolalaw3.DecodeNumbers': WHATEVER THE INPUT: true; the input reads as it did. -/
def decodeNumbersSpec : ChangeSpec := { name := "decodeNumbers", fn := fun _ => fun
  | [] => { results := [.lit (.bool true)], args := [] }
  | _ => none }
def decodeNumbersRow : OpenClaim := { program := "ytngfjjgejpkmmaadoor", sum := "bd5b8595e1bb9039da6dfee1a4a21fefa4fa890c66a546a5d533f2f015817802", func := "pianola/pianolalaw3.DecodeNumbers", spec := "decodeNumbers", named := ["pianola/decode.groups", "pianola/decode.keys"], apart := false, laid := [("pianola/decode.keys", laid_pianola_decode_keys), ("pianola/decode.groups", laid_pianola_decode_groups)] }
def DecodeNumbersSaid : Prop := decodeNumbersRow.holds Tryd.pinned (OpenSpec.ofChange decodeNumbersSpec)

/-- ITS FALSE NEIGHBOUR: 'it returns false'. Refute it at one input. -/
def decodeNumbersWrong : ChangeSpec := { name := "decodeNumbers", fn := fun _ => fun
  | [] => { results := [.lit (.bool false)], args := [] }
  | _ => none }
def DecodeNumbersWrongFalsely : Prop := decodeNumbersRow.holds Tryd.pinned (OpenSpec.ofChange decodeNumbersWrong)

/-- 'pianolalaw3.DecodeTells': WHATEVER THE INPUT: true; the input reads as it did. -/
def decodeTellsSpec : ChangeSpec := { name := "decodeTells", fn := fun _ => fun
  | [d1, d2, d3] => { results := [.lit (.bool true)], args := [d1, d2, d3] }
  | _ => none }
def decodeTellsRow : OpenClaim := { program := "ytngfjjgejpkmmaadoor", sum := "bd5b8595e1bb9039da6dfee1a4a21fefa4fa890c66a546a5d533f2f015817802", func := "pianola/pianolalaw3.DecodeTells", spec := "decodeTells", named := ["pianola/decode.groups", "pianola/decode.keys"], apart := false, laid := [("pianola/decode.keys", laid_pianola_decode_keys), ("pianola/decode.groups", laid_pianola_decode_groups)] }
def DecodeTellsSaid : Prop := decodeTellsRow.holds Tryd.pinned (OpenSpec.ofChange decodeTellsSpec)

/-- ITS FALSE NEIGHBOUR: 'it returns false'. Refute it at one input. -/
def decodeTellsWrong : ChangeSpec := { name := "decodeTells", fn := fun _ => fun
  | [d1, d2, d3] => { results := [.lit (.bool false)], args := [d1, d2, d3] }
  | _ => none }
def DecodeTellsWrongFalsely : Prop := decodeTellsRow.holds Tryd.pinned (OpenSpec.ofChange decodeTellsWrong)

/-- 'pianolalaw3.DecodeBack': WHATEVER THE INPUT: true; the input reads as it did. -/
def decodeBackSpec : ChangeSpec := { name := "decodeBack", fn := fun _ => fun
  | [d1, d2] => { results := [.lit (.bool true)], args := [d1, d2] }
  | _ => none }
def decodeBackRow : OpenClaim := { program := "ytngfjjgejpkmmaadoor", sum := "bd5b8595e1bb9039da6dfee1a4a21fefa4fa890c66a546a5d533f2f015817802", func := "pianola/pianolalaw3.DecodeBack", spec := "decodeBack", named := ["pianola/decode.keys", "pianola/decode.groups"], apart := false, laid := [("pianola/decode.keys", laid_pianola_decode_keys), ("pianola/decode.groups", laid_pianola_decode_groups)] }
def DecodeBackSaid : Prop := decodeBackRow.holds Tryd.pinned (OpenSpec.ofChange decodeBackSpec)

/-- ITS FALSE NEIGHBOUR: 'it returns false'. Refute it at one input. -/
def decodeBackWrong : ChangeSpec := { name := "decodeBack", fn := fun _ => fun
  | [d1, d2] => { results := [.lit (.bool false)], args := [d1, d2] }
  | _ => none }
def DecodeBackWrongFalsely : Prop := decodeBackRow.holds Tryd.pinned (OpenSpec.ofChange decodeBackWrong)

/-- 'pianolalaw3.DecodeFields': WHATEVER THE INPUT: true; the input reads as it did. -/
def decodeFieldsSpec : ChangeSpec := { name := "decodeFields", fn := fun _ => fun
  | [d1, d2] => { results := [.lit (.bool true)], args := [d1, d2] }
  | _ => none }
def decodeFieldsRow : OpenClaim := { program := "ytngfjjgejpkmmaadoor", sum := "bd5b8595e1bb9039da6dfee1a4a21fefa4fa890c66a546a5d533f2f015817802", func := "pianola/pianolalaw3.DecodeFields", spec := "decodeFields", named := ["pianola/decode.keys", "pianola/decode.groups"], apart := false, laid := [("pianola/decode.keys", laid_pianola_decode_keys), ("pianola/decode.groups", laid_pianola_decode_groups)] }
def DecodeFieldsSaid : Prop := decodeFieldsRow.holds Tryd.pinned (OpenSpec.ofChange decodeFieldsSpec)

/-- ITS FALSE NEIGHBOUR: 'it returns false'. Refute it at one input. -/
def decodeFieldsWrong : ChangeSpec := { name := "decodeFields", fn := fun _ => fun
  | [d1, d2] => { results := [.lit (.bool false)], args := [d1, d2] }
  | _ => none }
def DecodeFieldsWrongFalsely : Prop := decodeFieldsRow.holds Tryd.pinned (OpenSpec.ofChange decodeFieldsWrong)

/- THE SECOND FORM. 'bulk': how many values and letters a reading holds, each counted each time it is reached (what is shared counts as often as it is met; a slice's spare places count too). A statement '..UptoSaid' is the law's where the arguments, and the package variables that the reading takes, are together of bulk at most 1048576: NARROWER than '..Said'. Prove '..Said' where nothing that the law and all that it calls make is longer than what came in: it says more and counts as full. Else prove '..UptoSaid'. A law counts once. -/
mutual
def uptoBulk {H : Type} : DataW H → Nat
  | .lit (.string bytes) => bytes.length + 1
  | .lit _ => 1
  | .nil => 1
  | .ptr d => uptoBulk d + 1
  | .slice elems spare => uptoBulkAll elems + uptoBulkAll spare + 1
  | .agg parts => uptoBulkAll parts + 1
  | .iface _ d => uptoBulk d + 1
  | .map entries => uptoBulkEntries entries + 1
  | .held _ => 1
def uptoBulkAll {H : Type} : List (DataW H) → Nat
  | [] => 0
  | d :: r => uptoBulk d + uptoBulkAll r
def uptoBulkEntries {H : Type} : List (Lit × DataW H) → Nat
  | [] => 0
  | x :: r => uptoBulkEntry x + uptoBulkEntries r
def uptoBulkEntry {H : Type} : Lit × DataW H → Nat
  | (.string bytes, d) => bytes.length + uptoBulk d + 1
  | (_, d) => uptoBulk d + 1
 end
def uptoSmall : (H : Type) → List (DataW H) → Bool := fun _ ds => decide (uptoBulkAll ds ≤ 1048576)
def OpenSpec.upto (s : _root_.Go.ChangeSpec) : _root_.Go.OpenSpec := { _root_.Go.OpenSpec.ofChange s with cond := some uptoSmall }

/-- 'pianolalaw3.DecodeNumbers', WHERE WHAT IT READS IS OF BULK AT MOST 1048576: true; the input reads as it did. -/
def decodeNumbersUptoRow : OpenClaim := { program := "ytngfjjgejpkmmaadoor", sum := "bd5b8595e1bb9039da6dfee1a4a21fefa4fa890c66a546a5d533f2f015817802", func := "pianola/pianolalaw3.DecodeNumbers", spec := "decodeNumbers", named := ["pianola/decode.groups", "pianola/decode.keys"], apart := false, laid := [("pianola/decode.keys", laid_pianola_decode_keys), ("pianola/decode.groups", laid_pianola_decode_groups)], narrowed := true }
def DecodeNumbersUptoSaid : Prop := decodeNumbersUptoRow.holds Tryd.pinned (OpenSpec.upto decodeNumbersSpec)

/-- 'pianolalaw3.DecodeTells', WHERE WHAT IT READS IS OF BULK AT MOST 1048576: true; the input reads as it did. -/
def decodeTellsUptoRow : OpenClaim := { program := "ytngfjjgejpkmmaadoor", sum := "bd5b8595e1bb9039da6dfee1a4a21fefa4fa890c66a546a5d533f2f015817802", func := "pianola/pianolalaw3.DecodeTells", spec := "decodeTells", named := ["pianola/decode.groups", "pianola/decode.keys"], apart := false, laid := [("pianola/decode.keys", laid_pianola_decode_keys), ("pianola/decode.groups", laid_pianola_decode_groups)], narrowed := true }
def DecodeTellsUptoSaid : Prop := decodeTellsUptoRow.holds Tryd.pinned (OpenSpec.upto decodeTellsSpec)

/-- 'pianolalaw3.DecodeBack', WHERE WHAT IT READS IS OF BULK AT MOST 1048576: true; the input reads as it did. -/
def decodeBackUptoRow : OpenClaim := { program := "ytngfjjgejpkmmaadoor", sum := "bd5b8595e1bb9039da6dfee1a4a21fefa4fa890c66a546a5d533f2f015817802", func := "pianola/pianolalaw3.DecodeBack", spec := "decodeBack", named := ["pianola/decode.keys", "pianola/decode.groups"], apart := false, laid := [("pianola/decode.keys", laid_pianola_decode_keys), ("pianola/decode.groups", laid_pianola_decode_groups)], narrowed := true }
def DecodeBackUptoSaid : Prop := decodeBackUptoRow.holds Tryd.pinned (OpenSpec.upto decodeBackSpec)

/-- 'pianolalaw3.DecodeFields', WHERE WHAT IT READS IS OF BULK AT MOST 1048576: true; the input reads as it did. -/
def decodeFieldsUptoRow : OpenClaim := { program := "ytngfjjgejpkmmaadoor", sum := "bd5b8595e1bb9039da6dfee1a4a21fefa4fa890c66a546a5d533f2f015817802", func := "pianola/pianolalaw3.DecodeFields", spec := "decodeFields", named := ["pianola/decode.keys", "pianola/decode.groups"], apart := false, laid := [("pianola/decode.keys", laid_pianola_decode_keys), ("pianola/decode.groups", laid_pianola_decode_groups)], narrowed := true }
def DecodeFieldsUptoSaid : Prop := decodeFieldsUptoRow.holds Tryd.pinned (OpenSpec.upto decodeFieldsSpec)

end Rows
end Go.Proofs.YtngfjjgejpkmmaaDoor
