/-
  NARROWER THAN 'FOR EVERY INPUT', by the rows' own cells (each row's printed sentence says how): FnExactFaultsText: laid.
  DERIVED. THE GIVEN ROWS OF THIS SEAT. 1 by the template 'for every input the law returns true; each argument reads behind the call as it read before'; 0 by the template 'total and deterministic' (their statements: YthobfdcomcknoaaDoorTotals.lean).
  GIVEN WITH THE SEED: the statements are not yours to turn. If you find one false, say at which input.
  Laid BY PROGRAM, IN A SANDBOX (cutbox-rows.mjs): the forced cells as the released guide's own fill.sh prints them over the translation 73f9b567b69d5fdd… (all of the seat's roots in one cut). By AI agents, Wed Nov 11 2026. No macro, syntax, notation, axiom, sorry.
-/
import Derived.Test.YthobfdcomcknoaaDoorChecked
import GoSem.Claim
import GoSem.ClaimJoined
import GoSem.ClaimMapViews
import Derived.JoinedTies
import Derived.KernelRfl
namespace Go.Proofs.YthobfdcomcknoaaDoor
/- THE CELL 'sum', in the pinned program and in every row, IS THE sha256 OF THE DUMP (.gsa) THAT YthobfdcomcknoaaDoorProg.lean LOADS. Nothing in Lean hashes anything: it is a label: what it is worth is what the hold of that sum in a sandbox is worth. -/
noncomputable def Tryd.pinned : Pinned := { name := "ythobfdcomcknoaadoor", sum := "73f9b567b69d5fdd6e406e66777da0c3c948b55bbbe1b71712a5720ae14321d6", checked := Tryd.checked }
namespace Rows
def none {H : Type} : Left H := { results := [], args := [] }

/- WHAT THE LISTED PACKAGE-LEVEL VARIABLES READ AS WHEN THE CALL BEGINS. Each datum BY PROGRAM (the guide's laid-datum.mjs) off the statement by which the dump's own 'gosem.cut.vars' lays the variable. In a bare row this is a premise. The card (YthobfdcomcknoaaDoorCards.lean) ties it to the program's text. -/
def laid_loop_example_g00756_impl_codeTexts {H : Type} : DataW H := .agg [.lit (.string [111, 107]), .lit (.string [112, 97, 116, 104]), .lit (.string [110, 111, 110, 101]), .lit (.string [110, 111, 100, 105, 114]), .lit (.string [109, 97, 121]), .lit (.string [108, 111, 111, 112]), .lit (.string [116, 104, 101, 114, 101]), .lit (.string [105, 115, 100, 105, 114]), .lit (.string [102, 117, 108, 108]), .lit (.string [98, 117, 115, 121]), .lit (.string [102, 97, 117, 108, 116])]

/-- 'laws.FnExactFaultsText': WHATEVER THE INPUT: true; the input reads as it did. -/
def fnExactFaultsTextSpec : ChangeSpec := { name := "fnExactFaultsText", vars := ["loop.example/g00756/impl.codeTexts"], fn := fun _ => fun
  | [d, g1] => { results := [.lit (.bool true)], args := [d], vars := [g1] }
  | _ => none }
def fnExactFaultsTextRow : OpenClaim := { program := "ythobfdcomcknoaadoor", sum := "73f9b567b69d5fdd6e406e66777da0c3c948b55bbbe1b71712a5720ae14321d6", func := "loop.example/g00756/laws.FnExactFaultsText", spec := "fnExactFaultsText", inPlace := ["internal/abi.NoEscape"], unfollowed := true, recurses := true, named := ["loop.example/g00756/impl.codeTexts"], apart := false, laid := [("loop.example/g00756/impl.codeTexts", laid_loop_example_g00756_impl_codeTexts)] }
def FnExactFaultsTextSaid : Prop := fnExactFaultsTextRow.holds Tryd.pinned (OpenSpec.ofChange fnExactFaultsTextSpec)

/-- ITS FALSE NEIGHBOUR: 'it returns false'. Refute it at one input. -/
def fnExactFaultsTextWrong : ChangeSpec := { name := "fnExactFaultsText", vars := ["loop.example/g00756/impl.codeTexts"], fn := fun _ => fun
  | [d, g1] => { results := [.lit (.bool false)], args := [d], vars := [g1] }
  | _ => none }
def FnExactFaultsTextWrongFalsely : Prop := fnExactFaultsTextRow.holds Tryd.pinned (OpenSpec.ofChange fnExactFaultsTextWrong)

/- THE SECOND FORM. 'bulk': how many values and letters a reading holds, each counted each time it is reached (what is shared counts as often as it is met; a slice's spare places count too). A statement '..UptoSaid' is the law's where the arguments, and the package variables that the reading takes, are together of bulk at most 1048576: NARROWER than '..Said'. Prove '..Said' where nothing that the law and all that it calls make is longer than what came in: it says more and counts as full. Else prove '..UptoSaid'. A law counts once. -/
mutual
def uptoBulk {H : Type} : DataW H → Nat
  | .lit (.string bytes) => bytes.length + 1
  | .lit _ => 1
  | .nil => 1
  | .ptr d => uptoBulk d + 1
  | .slice elems spare => uptoBulkAll elems + uptoBulkAll spare + 1
  | .agg parts => uptoBulkAll parts + 1
  | .iface _ d => uptoBulk d + 1
  | .map entries => uptoBulkEntries entries + 1
  | .held _ => 1
def uptoBulkAll {H : Type} : List (DataW H) → Nat
  | [] => 0
  | d :: r => uptoBulk d + uptoBulkAll r
def uptoBulkEntries {H : Type} : List (Lit × DataW H) → Nat
  | [] => 0
  | x :: r => uptoBulkEntry x + uptoBulkEntries r
def uptoBulkEntry {H : Type} : Lit × DataW H → Nat
  | (.string bytes, d) => bytes.length + uptoBulk d + 1
  | (_, d) => uptoBulk d + 1
 end
def uptoSmall : (H : Type) → List (DataW H) → Bool := fun _ ds => decide (uptoBulkAll ds ≤ 1048576)
def OpenSpec.upto (s : _root_.Go.ChangeSpec) : _root_.Go.OpenSpec := { _root_.Go.OpenSpec.ofChange s with cond := some uptoSmall }

/-- 'laws.FnExactFaultsText', WHERE WHAT IT READS IS OF BULK AT MOST 1048576: true; the input reads as it did. -/
def fnExactFaultsTextUptoRow : OpenClaim := { program := "ythobfdcomcknoaadoor", sum := "73f9b567b69d5fdd6e406e66777da0c3c948b55bbbe1b71712a5720ae14321d6", func := "loop.example/g00756/laws.FnExactFaultsText", spec := "fnExactFaultsText", inPlace := ["internal/abi.NoEscape"], unfollowed := true, recurses := true, named := ["loop.example/g00756/impl.codeTexts"], apart := false, laid := [("loop.example/g00756/impl.codeTexts", laid_loop_example_g00756_impl_codeTexts)], narrowed := true }
def FnExactFaultsTextUptoSaid : Prop := fnExactFaultsTextUptoRow.holds Tryd.pinned (OpenSpec.upto fnExactFaultsTextSpec)

end Rows
end Go.Proofs.YthobfdcomcknoaaDoor
