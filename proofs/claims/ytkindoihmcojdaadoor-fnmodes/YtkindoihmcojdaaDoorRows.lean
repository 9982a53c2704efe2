/-
  NARROWER THAN 'FOR EVERY INPUT', by the rows' own cells (each row's printed sentence says how): FnModes: laid · FnExactModeText: laid · FnExactReadMode: laid.
  DERIVED. THE GIVEN ROWS OF THIS SEAT. 3 by the template 'for every input the law returns true; each argument reads behind the call as it read before'; 0 by the template 'total and deterministic' (their statements: YtkindoihmcojdaaDoorTotals.lean).
  GIVEN WITH THE SEED: the statements are not yours to turn. If you find one false, say at which input.
  Laid BY PROGRAM, IN A SANDBOX (cutbox-rows.mjs): the forced cells as the released guide's own fill.sh prints them over the translation 35570c8da66a667e… (all of the seat's roots in one cut). By AI agents, Wed Nov 11 2026. No macro, syntax, notation, axiom, sorry.
-/
import Derived.Test.YtkindoihmcojdaaDoorChecked
import GoSem.Claim
import GoSem.ClaimJoined
import GoSem.ClaimMapViews
import Derived.JoinedTies
import Derived.KernelRfl
namespace Go.Proofs.YtkindoihmcojdaaDoor
/- THE CELL 'sum', in the pinned program and in every row, IS THE sha256 OF THE DUMP (.gsa) THAT YtkindoihmcojdaaDoorProg.lean LOADS. Nothing in Lean hashes anything: it is a label: what it is worth is what the hold of that sum in a sandbox is worth. -/
noncomputable def Tryd.pinned : Pinned := { name := "ytkindoihmcojdaadoor", sum := "35570c8da66a667e73fa57c004ae5fa710db48fd669ce8646ce0fe0a070e45c0", checked := Tryd.checked }
namespace Rows
def none {H : Type} : Left H := { results := [], args := [] }

/- WHAT THE LISTED PACKAGE-LEVEL VARIABLES READ AS WHEN THE CALL BEGINS. Each datum BY PROGRAM (the guide's laid-datum.mjs) off the statement by which the dump's own 'gosem.cut.vars' lays the variable. In a bare row this is a premise. The card (YtkindoihmcojdaaDoorCards.lean) ties it to the program's text. -/
def laid_loop_example_g00756_impl_tripleTexts {H : Type} : DataW H := .agg [.lit (.string [45, 45, 45]), .lit (.string [45, 45, 120]), .lit (.string [45, 119, 45]), .lit (.string [45, 119, 120]), .lit (.string [114, 45, 45]), .lit (.string [114, 45, 120]), .lit (.string [114, 119, 45]), .lit (.string [114, 119, 120])]

/-- 'laws.FnModes': WHATEVER THE INPUT: true; the input reads as it did. -/
def fnModesSpec : ChangeSpec := { name := "fnModes", vars := ["loop.example/g00756/impl.tripleTexts"], fn := fun _ => fun
  | [d1, d2, g1] => { results := [.lit (.bool true)], args := [d1, d2], vars := [g1] }
  | _ => none }
def fnModesRow : OpenClaim := { program := "ytkindoihmcojdaadoor", sum := "35570c8da66a667e73fa57c004ae5fa710db48fd669ce8646ce0fe0a070e45c0", func := "loop.example/g00756/laws.FnModes", spec := "fnModes", inPlace := ["internal/bytealg.IndexByteString", "internal/bytealg.IndexString"], unfollowed := true, recurses := true, named := ["loop.example/g00756/impl.tripleTexts", "internal/bytealg.MaxLen"], apart := false, laid := [("loop.example/g00756/impl.tripleTexts", laid_loop_example_g00756_impl_tripleTexts)] }
def FnModesSaid : Prop := fnModesRow.holds Tryd.pinned (OpenSpec.ofChange fnModesSpec)

/-- ITS FALSE NEIGHBOUR: 'it returns false'. Refute it at one input. -/
def fnModesWrong : ChangeSpec := { name := "fnModes", vars := ["loop.example/g00756/impl.tripleTexts"], fn := fun _ => fun
  | [d1, d2, g1] => { results := [.lit (.bool false)], args := [d1, d2], vars := [g1] }
  | _ => none }
def FnModesWrongFalsely : Prop := fnModesRow.holds Tryd.pinned (OpenSpec.ofChange fnModesWrong)

/-- 'laws.FnExactModeText': WHATEVER THE INPUT: true; the input reads as it did. -/
def fnExactModeTextSpec : ChangeSpec := { name := "fnExactModeText", vars := ["loop.example/g00756/impl.tripleTexts"], fn := fun _ => fun
  | [d, g1] => { results := [.lit (.bool true)], args := [d], vars := [g1] }
  | _ => none }
def fnExactModeTextRow : OpenClaim := { program := "ytkindoihmcojdaadoor", sum := "35570c8da66a667e73fa57c004ae5fa710db48fd669ce8646ce0fe0a070e45c0", func := "loop.example/g00756/laws.FnExactModeText", spec := "fnExactModeText", named := ["loop.example/g00756/impl.tripleTexts"], apart := false, laid := [("loop.example/g00756/impl.tripleTexts", laid_loop_example_g00756_impl_tripleTexts)] }
def FnExactModeTextSaid : Prop := fnExactModeTextRow.holds Tryd.pinned (OpenSpec.ofChange fnExactModeTextSpec)

/-- ITS FALSE NEIGHBOUR: 'it returns false'. Refute it at one input. -/
def fnExactModeTextWrong : ChangeSpec := { name := "fnExactModeText", vars := ["loop.example/g00756/impl.tripleTexts"], fn := fun _ => fun
  | [d, g1] => { results := [.lit (.bool false)], args := [d], vars := [g1] }
  | _ => none }
def FnExactModeTextWrongFalsely : Prop := fnExactModeTextRow.holds Tryd.pinned (OpenSpec.ofChange fnExactModeTextWrong)

/-- 'laws.FnExactReadMode': WHATEVER THE INPUT: true; the input reads as it did. -/
def fnExactReadModeSpec : ChangeSpec := { name := "fnExactReadMode", vars := ["loop.example/g00756/impl.tripleTexts"], fn := fun _ => fun
  | [d, g1] => { results := [.lit (.bool true)], args := [d], vars := [g1] }
  | _ => none }
def fnExactReadModeRow : OpenClaim := { program := "ytkindoihmcojdaadoor", sum := "35570c8da66a667e73fa57c004ae5fa710db48fd669ce8646ce0fe0a070e45c0", func := "loop.example/g00756/laws.FnExactReadMode", spec := "fnExactReadMode", named := ["loop.example/g00756/impl.tripleTexts"], apart := false, laid := [("loop.example/g00756/impl.tripleTexts", laid_loop_example_g00756_impl_tripleTexts)] }
def FnExactReadModeSaid : Prop := fnExactReadModeRow.holds Tryd.pinned (OpenSpec.ofChange fnExactReadModeSpec)

/-- ITS FALSE NEIGHBOUR: 'it returns false'. Refute it at one input. -/
def fnExactReadModeWrong : ChangeSpec := { name := "fnExactReadMode", vars := ["loop.example/g00756/impl.tripleTexts"], fn := fun _ => fun
  | [d, g1] => { results := [.lit (.bool false)], args := [d], vars := [g1] }
  | _ => none }
def FnExactReadModeWrongFalsely : Prop := fnExactReadModeRow.holds Tryd.pinned (OpenSpec.ofChange fnExactReadModeWrong)

/- THE SECOND FORM. 'bulk': how many values and letters a reading holds, each counted each time it is reached (what is shared counts as often as it is met; a slice's spare places count too). A statement '..UptoSaid' is the law's where the arguments, and the package variables that the reading takes, are together of bulk at most 1048576: NARROWER than '..Said'. Prove '..Said' where nothing that the law and all that it calls make is longer than what came in: it says more and counts as full. Else prove '..UptoSaid'. A law counts once. -/
mutual
def uptoBulk {H : Type} : DataW H → Nat
  | .lit (.string bytes) => bytes.length + 1
  | .lit _ => 1
  | .nil => 1
  | .ptr d => uptoBulk d + 1
  | .slice elems spare => uptoBulkAll elems + uptoBulkAll spare + 1
  | .agg parts => uptoBulkAll parts + 1
  | .iface _ d => uptoBulk d + 1
  | .map entries => uptoBulkEntries entries + 1
  | .held _ => 1
def uptoBulkAll {H : Type} : List (DataW H) → Nat
  | [] => 0
  | d :: r => uptoBulk d + uptoBulkAll r
def uptoBulkEntries {H : Type} : List (Lit × DataW H) → Nat
  | [] => 0
  | x :: r => uptoBulkEntry x + uptoBulkEntries r
def uptoBulkEntry {H : Type} : Lit × DataW H → Nat
  | (.string bytes, d) => bytes.length + uptoBulk d + 1
  | (_, d) => uptoBulk d + 1
 end
def uptoSmall : (H : Type) → List (DataW H) → Bool := fun _ ds => decide (uptoBulkAll ds ≤ 1048576)
def OpenSpec.upto (s : _root_.Go.ChangeSpec) : _root_.Go.OpenSpec := { _root_.Go.OpenSpec.ofChange s with cond := some uptoSmall }

/-- 'laws.FnModes', WHERE WHAT IT READS IS OF BULK AT MOST 1048576: true; the input reads as it did. -/
def fnModesUptoRow : OpenClaim := { program := "ytkindoihmcojdaadoor", sum := "35570c8da66a667e73fa57c004ae5fa710db48fd669ce8646ce0fe0a070e45c0", func := "loop.example/g00756/laws.FnModes", spec := "fnModes", inPlace := ["internal/bytealg.IndexByteString", "internal/bytealg.IndexString"], unfollowed := true, recurses := true, named := ["loop.example/g00756/impl.tripleTexts", "internal/bytealg.MaxLen"], apart := false, laid := [("loop.example/g00756/impl.tripleTexts", laid_loop_example_g00756_impl_tripleTexts)], narrowed := true }
def FnModesUptoSaid : Prop := fnModesUptoRow.holds Tryd.pinned (OpenSpec.upto fnModesSpec)

/-- 'laws.FnExactModeText', WHERE WHAT IT READS IS OF BULK AT MOST 1048576: true; the input reads as it did. -/
def fnExactModeTextUptoRow : OpenClaim := { program := "ytkindoihmcojdaadoor", sum := "35570c8da66a667e73fa57c004ae5fa710db48fd669ce8646ce0fe0a070e45c0", func := "loop.example/g00756/laws.FnExactModeText", spec := "fnExactModeText", named := ["loop.example/g00756/impl.tripleTexts"], apart := false, laid := [("loop.example/g00756/impl.tripleTexts", laid_loop_example_g00756_impl_tripleTexts)], narrowed := true }
def FnExactModeTextUptoSaid : Prop := fnExactModeTextUptoRow.holds Tryd.pinned (OpenSpec.upto fnExactModeTextSpec)

/-- 'laws.FnExactReadMode', WHERE WHAT IT READS IS OF BULK AT MOST 1048576: true; the input reads as it did. -/
def fnExactReadModeUptoRow : OpenClaim := { program := "ytkindoihmcojdaadoor", sum := "35570c8da66a667e73fa57c004ae5fa710db48fd669ce8646ce0fe0a070e45c0", func := "loop.example/g00756/laws.FnExactReadMode", spec := "fnExactReadMode", named := ["loop.example/g00756/impl.tripleTexts"], apart := false, laid := [("loop.example/g00756/impl.tripleTexts", laid_loop_example_g00756_impl_tripleTexts)], narrowed := true }
def FnExactReadModeUptoSaid : Prop := fnExactReadModeUptoRow.holds Tryd.pinned (OpenSpec.upto fnExactReadModeSpec)

end Rows
end Go.Proofs.YtkindoihmcojdaaDoor
