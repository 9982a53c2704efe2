/-
  NARROWER THAN 'FOR EVERY INPUT', by the rows' own cells (each row's printed sentence says how): FnNodes: laid · FnFound: laid · FnListed: laid · FnExactFindNode: laid · FnExactFindPlace: laid · FnExactReadLink: laid · FnExactListDir: laid · FnExactRealPath: laid.
  DERIVED. THE GIVEN ROWS OF THIS SEAT. 8 by the template 'for every input the law returns true; each argument reads behind the call as it read before'; 0 by the template 'total and deterministic' (their statements: YtgmkfhhlnhgkhaaGreatDoorTotals.lean).
  GIVEN WITH THE SEED: the statements are not yours to turn. If you find one false, say at which input.
  Laid BY PROGRAM, IN A SANDBOX (cutbox-rows.mjs): the forced cells as the released guide's own fill.sh prints them over the translation d625f4746dfe7d3c… (all of the seat's roots in one cut). By AI agents, Wed Nov 11 2026. No macro, syntax, notation, axiom, sorry.
-/
import Derived.Test.YtgmkfhhlnhgkhaaGreatDoorChecked
import GoSem.Claim
import GoSem.ClaimJoined
import GoSem.ClaimMapViews
import Derived.JoinedTies
import Derived.KernelRfl
namespace Go.Proofs.YtgmkfhhlnhgkhaaGreatDoor
/- THE CELL 'sum', in the pinned program and in every row, IS THE sha256 OF THE DUMP (.gsa) THAT YtgmkfhhlnhgkhaaGreatDoorProg.lean LOADS. Nothing in Lean hashes anything: it is a label: what it is worth is what the hold of that sum in a sandbox is worth. -/
noncomputable def Tryz.pinned : Pinned := { name := "ytgmkfhhlnhgkhaagreatdoor", sum := "d625f4746dfe7d3cac427db51018f64005aaa3a3ce4e14ebc2ddc85d629d6551", checked := Tryz.checked }
namespace Rows
def none {H : Type} : Left H := { results := [], args := [] }

/- WHAT THE LISTED PACKAGE-LEVEL VARIABLES READ AS WHEN THE CALL BEGINS. Each datum BY PROGRAM (the guide's laid-datum.mjs) off the statement by which the dump's own 'gosem.cut.vars' lays the variable. In a bare row this is a premise. The card (YtgmkfhhlnhgkhaaGreatDoorCards.lean) ties it to the program's text. -/
def laid_errors_errorType {H : Type} : DataW H := .iface "internal/reflectlite.rtype" (.agg [.ptr (.lit (.string [101, 114, 114, 111, 114]))])
def laid_loop_example_g00756_impl_codeTexts {H : Type} : DataW H := .agg [.lit (.string [111, 107]), .lit (.string [112, 97, 116, 104]), .lit (.string [110, 111, 110, 101]), .lit (.string [110, 111, 100, 105, 114]), .lit (.string [109, 97, 121]), .lit (.string [108, 111, 111, 112]), .lit (.string [116, 104, 101, 114, 101]), .lit (.string [105, 115, 100, 105, 114]), .lit (.string [102, 117, 108, 108]), .lit (.string [98, 117, 115, 121]), .lit (.string [102, 97, 117, 108, 116])]

/-- 'laws.FnNodes': WHATEVER THE INPUT: true; the input reads as it did. -/
def fnNodesSpec : ChangeSpec := { name := "fnNodes", fn := fun _ => fun
  | [d1, d2] => { results := [.lit (.bool true)], args := [d1, d2] }
  | _ => none }
def fnNodesRow : OpenClaim := { program := "ytgmkfhhlnhgkhaagreatdoor", sum := "d625f4746dfe7d3cac427db51018f64005aaa3a3ce4e14ebc2ddc85d629d6551", func := "loop.example/g00756/laws.FnNodes", spec := "fnNodes", inPlace := ["internal/bytealg.abigen_runtime_cmpstring", "internal/reflectlite.ValueOf", "(internal/reflectlite.Value).Type", "(internal/reflectlite.Value).IsNil", "internal/reflectlite.TypeOf", "(internal/reflectlite.Value).Elem", "(internal/reflectlite.Value).Set"], unfollowed := true, recurses := true, named := ["errors.errorType"], apart := false, laid := [("errors.errorType", laid_errors_errorType)] }
def FnNodesSaid : Prop := fnNodesRow.holds Tryz.pinned (OpenSpec.ofChange fnNodesSpec)

/-- ITS FALSE NEIGHBOUR: 'it returns false'. Refute it at one input. -/
def fnNodesWrong : ChangeSpec := { name := "fnNodes", fn := fun _ => fun
  | [d1, d2] => { results := [.lit (.bool false)], args := [d1, d2] }
  | _ => none }
def FnNodesWrongFalsely : Prop := fnNodesRow.holds Tryz.pinned (OpenSpec.ofChange fnNodesWrong)

/-- 'laws.FnFound': WHATEVER THE INPUT: true; the input reads as it did. -/
def fnFoundSpec : ChangeSpec := { name := "fnFound", fn := fun _ => fun
  | [d1, d2] => { results := [.lit (.bool true)], args := [d1, d2] }
  | _ => none }
def fnFoundRow : OpenClaim := { program := "ytgmkfhhlnhgkhaagreatdoor", sum := "d625f4746dfe7d3cac427db51018f64005aaa3a3ce4e14ebc2ddc85d629d6551", func := "loop.example/g00756/laws.FnFound", spec := "fnFound", inPlace := ["internal/bytealg.abigen_runtime_cmpstring", "internal/reflectlite.ValueOf", "(internal/reflectlite.Value).Type", "(internal/reflectlite.Value).IsNil", "internal/reflectlite.TypeOf", "(internal/reflectlite.Value).Elem", "(internal/reflectlite.Value).Set"], unfollowed := true, recurses := true, named := ["errors.errorType"], apart := false, laid := [("errors.errorType", laid_errors_errorType)] }
def FnFoundSaid : Prop := fnFoundRow.holds Tryz.pinned (OpenSpec.ofChange fnFoundSpec)

/-- ITS FALSE NEIGHBOUR: 'it returns false'. Refute it at one input. -/
def fnFoundWrong : ChangeSpec := { name := "fnFound", fn := fun _ => fun
  | [d1, d2] => { results := [.lit (.bool false)], args := [d1, d2] }
  | _ => none }
def FnFoundWrongFalsely : Prop := fnFoundRow.holds Tryz.pinned (OpenSpec.ofChange fnFoundWrong)

/-- 'laws.FnListed': WHATEVER THE INPUT: true; the input reads as it did. -/
def fnListedSpec : ChangeSpec := { name := "fnListed", vars := ["loop.example/g00756/impl.codeTexts"], fn := fun _ => fun
  | [d1, d2, g1] => { results := [.lit (.bool true)], args := [d1, d2], vars := [g1] }
  | _ => none }
def fnListedRow : OpenClaim := { program := "ytgmkfhhlnhgkhaagreatdoor", sum := "d625f4746dfe7d3cac427db51018f64005aaa3a3ce4e14ebc2ddc85d629d6551", func := "loop.example/g00756/laws.FnListed", spec := "fnListed", inPlace := ["internal/bytealg.abigen_runtime_cmpstring", "internal/reflectlite.ValueOf", "(internal/reflectlite.Value).Type", "(internal/reflectlite.Value).IsNil", "internal/reflectlite.TypeOf", "(internal/reflectlite.Value).Elem", "(internal/reflectlite.Value).Set"], unfollowed := true, recurses := true, named := ["errors.errorType", "loop.example/g00756/impl.codeTexts"], apart := false, laid := [("errors.errorType", laid_errors_errorType), ("loop.example/g00756/impl.codeTexts", laid_loop_example_g00756_impl_codeTexts)] }
def FnListedSaid : Prop := fnListedRow.holds Tryz.pinned (OpenSpec.ofChange fnListedSpec)

/-- ITS FALSE NEIGHBOUR: 'it returns false'. Refute it at one input. -/
def fnListedWrong : ChangeSpec := { name := "fnListed", vars := ["loop.example/g00756/impl.codeTexts"], fn := fun _ => fun
  | [d1, d2, g1] => { results := [.lit (.bool false)], args := [d1, d2], vars := [g1] }
  | _ => none }
def FnListedWrongFalsely : Prop := fnListedRow.holds Tryz.pinned (OpenSpec.ofChange fnListedWrong)

/-- 'laws.FnExactFindNode': WHATEVER THE INPUT: true; the input reads as it did. -/
def fnExactFindNodeSpec : ChangeSpec := { name := "fnExactFindNode", fn := fun _ => fun
  | [d1, d2, d3, d4] => { results := [.lit (.bool true)], args := [d1, d2, d3, d4] }
  | _ => none }
def fnExactFindNodeRow : OpenClaim := { program := "ytgmkfhhlnhgkhaagreatdoor", sum := "d625f4746dfe7d3cac427db51018f64005aaa3a3ce4e14ebc2ddc85d629d6551", func := "loop.example/g00756/laws.FnExactFindNode", spec := "fnExactFindNode", inPlace := ["internal/bytealg.abigen_runtime_cmpstring", "internal/reflectlite.ValueOf", "(internal/reflectlite.Value).Type", "(internal/reflectlite.Value).IsNil", "internal/reflectlite.TypeOf", "(internal/reflectlite.Value).Elem", "(internal/reflectlite.Value).Set"], unfollowed := true, recurses := true, named := ["errors.errorType"], apart := false, laid := [("errors.errorType", laid_errors_errorType)] }
def FnExactFindNodeSaid : Prop := fnExactFindNodeRow.holds Tryz.pinned (OpenSpec.ofChange fnExactFindNodeSpec)

/-- ITS FALSE NEIGHBOUR: 'it returns false'. Refute it at one input. -/
def fnExactFindNodeWrong : ChangeSpec := { name := "fnExactFindNode", fn := fun _ => fun
  | [d1, d2, d3, d4] => { results := [.lit (.bool false)], args := [d1, d2, d3, d4] }
  | _ => none }
def FnExactFindNodeWrongFalsely : Prop := fnExactFindNodeRow.holds Tryz.pinned (OpenSpec.ofChange fnExactFindNodeWrong)

/-- 'laws.FnExactFindPlace': WHATEVER THE INPUT: true; the input reads as it did. -/
def fnExactFindPlaceSpec : ChangeSpec := { name := "fnExactFindPlace", fn := fun _ => fun
  | [d1, d2, d3] => { results := [.lit (.bool true)], args := [d1, d2, d3] }
  | _ => none }
def fnExactFindPlaceRow : OpenClaim := { program := "ytgmkfhhlnhgkhaagreatdoor", sum := "d625f4746dfe7d3cac427db51018f64005aaa3a3ce4e14ebc2ddc85d629d6551", func := "loop.example/g00756/laws.FnExactFindPlace", spec := "fnExactFindPlace", inPlace := ["internal/bytealg.abigen_runtime_cmpstring", "internal/reflectlite.ValueOf", "(internal/reflectlite.Value).Type", "(internal/reflectlite.Value).IsNil", "internal/reflectlite.TypeOf", "(internal/reflectlite.Value).Elem", "(internal/reflectlite.Value).Set"], unfollowed := true, recurses := true, named := ["errors.errorType"], apart := false, laid := [("errors.errorType", laid_errors_errorType)] }
def FnExactFindPlaceSaid : Prop := fnExactFindPlaceRow.holds Tryz.pinned (OpenSpec.ofChange fnExactFindPlaceSpec)

/-- ITS FALSE NEIGHBOUR: 'it returns false'. Refute it at one input. -/
def fnExactFindPlaceWrong : ChangeSpec := { name := "fnExactFindPlace", fn := fun _ => fun
  | [d1, d2, d3] => { results := [.lit (.bool false)], args := [d1, d2, d3] }
  | _ => none }
def FnExactFindPlaceWrongFalsely : Prop := fnExactFindPlaceRow.holds Tryz.pinned (OpenSpec.ofChange fnExactFindPlaceWrong)

/-- 'laws.FnExactReadLink': WHATEVER THE INPUT: true; the input reads as it did. -/
def fnExactReadLinkSpec : ChangeSpec := { name := "fnExactReadLink", fn := fun _ => fun
  | [d1, d2, d3] => { results := [.lit (.bool true)], args := [d1, d2, d3] }
  | _ => none }
def fnExactReadLinkRow : OpenClaim := { program := "ytgmkfhhlnhgkhaagreatdoor", sum := "d625f4746dfe7d3cac427db51018f64005aaa3a3ce4e14ebc2ddc85d629d6551", func := "loop.example/g00756/laws.FnExactReadLink", spec := "fnExactReadLink", inPlace := ["internal/bytealg.abigen_runtime_cmpstring", "internal/reflectlite.ValueOf", "(internal/reflectlite.Value).Type", "(internal/reflectlite.Value).IsNil", "internal/reflectlite.TypeOf", "(internal/reflectlite.Value).Elem", "(internal/reflectlite.Value).Set"], unfollowed := true, recurses := true, named := ["errors.errorType"], apart := false, laid := [("errors.errorType", laid_errors_errorType)] }
def FnExactReadLinkSaid : Prop := fnExactReadLinkRow.holds Tryz.pinned (OpenSpec.ofChange fnExactReadLinkSpec)

/-- ITS FALSE NEIGHBOUR: 'it returns false'. Refute it at one input. -/
def fnExactReadLinkWrong : ChangeSpec := { name := "fnExactReadLink", fn := fun _ => fun
  | [d1, d2, d3] => { results := [.lit (.bool false)], args := [d1, d2, d3] }
  | _ => none }
def FnExactReadLinkWrongFalsely : Prop := fnExactReadLinkRow.holds Tryz.pinned (OpenSpec.ofChange fnExactReadLinkWrong)

/-- 'laws.FnExactListDir': WHATEVER THE INPUT: true; the input reads as it did. -/
def fnExactListDirSpec : ChangeSpec := { name := "fnExactListDir", fn := fun _ => fun
  | [d1, d2, d3] => { results := [.lit (.bool true)], args := [d1, d2, d3] }
  | _ => none }
def fnExactListDirRow : OpenClaim := { program := "ytgmkfhhlnhgkhaagreatdoor", sum := "d625f4746dfe7d3cac427db51018f64005aaa3a3ce4e14ebc2ddc85d629d6551", func := "loop.example/g00756/laws.FnExactListDir", spec := "fnExactListDir", inPlace := ["internal/bytealg.abigen_runtime_cmpstring", "internal/reflectlite.ValueOf", "(internal/reflectlite.Value).Type", "(internal/reflectlite.Value).IsNil", "internal/reflectlite.TypeOf", "(internal/reflectlite.Value).Elem", "(internal/reflectlite.Value).Set"], unfollowed := true, recurses := true, named := ["errors.errorType"], apart := false, laid := [("errors.errorType", laid_errors_errorType)] }
def FnExactListDirSaid : Prop := fnExactListDirRow.holds Tryz.pinned (OpenSpec.ofChange fnExactListDirSpec)

/-- ITS FALSE NEIGHBOUR: 'it returns false'. Refute it at one input. -/
def fnExactListDirWrong : ChangeSpec := { name := "fnExactListDir", fn := fun _ => fun
  | [d1, d2, d3] => { results := [.lit (.bool false)], args := [d1, d2, d3] }
  | _ => none }
def FnExactListDirWrongFalsely : Prop := fnExactListDirRow.holds Tryz.pinned (OpenSpec.ofChange fnExactListDirWrong)

/-- 'laws.FnExactRealPath': WHATEVER THE INPUT: true; the input reads as it did. -/
def fnExactRealPathSpec : ChangeSpec := { name := "fnExactRealPath", fn := fun _ => fun
  | [d1, d2, d3] => { results := [.lit (.bool true)], args := [d1, d2, d3] }
  | _ => none }
def fnExactRealPathRow : OpenClaim := { program := "ytgmkfhhlnhgkhaagreatdoor", sum := "d625f4746dfe7d3cac427db51018f64005aaa3a3ce4e14ebc2ddc85d629d6551", func := "loop.example/g00756/laws.FnExactRealPath", spec := "fnExactRealPath", inPlace := ["internal/bytealg.abigen_runtime_cmpstring", "internal/reflectlite.ValueOf", "(internal/reflectlite.Value).Type", "(internal/reflectlite.Value).IsNil", "internal/reflectlite.TypeOf", "(internal/reflectlite.Value).Elem", "(internal/reflectlite.Value).Set"], unfollowed := true, recurses := true, named := ["errors.errorType"], apart := false, laid := [("errors.errorType", laid_errors_errorType)] }
def FnExactRealPathSaid : Prop := fnExactRealPathRow.holds Tryz.pinned (OpenSpec.ofChange fnExactRealPathSpec)

/-- ITS FALSE NEIGHBOUR: 'it returns false'. Refute it at one input. -/
def fnExactRealPathWrong : ChangeSpec := { name := "fnExactRealPath", fn := fun _ => fun
  | [d1, d2, d3] => { results := [.lit (.bool false)], args := [d1, d2, d3] }
  | _ => none }
def FnExactRealPathWrongFalsely : Prop := fnExactRealPathRow.holds Tryz.pinned (OpenSpec.ofChange fnExactRealPathWrong)

/- THE SECOND FORM. 'bulk': how many values and letters a reading holds, each counted each time it is reached (what is shared counts as often as it is met; a slice's spare places count too). A statement '..UptoSaid' is the law's where the arguments, and the package variables that the reading takes, are together of bulk at most 1048576: NARROWER than '..Said'. Prove '..Said' where nothing that the law and all that it calls make is longer than what came in: it says more and counts as full. Else prove '..UptoSaid'. A law counts once. -/
mutual
def uptoBulk {H : Type} : DataW H → Nat
  | .lit (.string bytes) => bytes.length + 1
  | .lit _ => 1
  | .nil => 1
  | .ptr d => uptoBulk d + 1
  | .slice elems spare => uptoBulkAll elems + uptoBulkAll spare + 1
  | .agg parts => uptoBulkAll parts + 1
  | .iface _ d => uptoBulk d + 1
  | .map entries => uptoBulkEntries entries + 1
  | .held _ => 1
def uptoBulkAll {H : Type} : List (DataW H) → Nat
  | [] => 0
  | d :: r => uptoBulk d + uptoBulkAll r
def uptoBulkEntries {H : Type} : List (Lit × DataW H) → Nat
  | [] => 0
  | x :: r => uptoBulkEntry x + uptoBulkEntries r
def uptoBulkEntry {H : Type} : Lit × DataW H → Nat
  | (.string bytes, d) => bytes.length + uptoBulk d + 1
  | (_, d) => uptoBulk d + 1
 end
def uptoSmall : (H : Type) → List (DataW H) → Bool := fun _ ds => decide (uptoBulkAll ds ≤ 1048576)
def OpenSpec.upto (s : _root_.Go.ChangeSpec) : _root_.Go.OpenSpec := { _root_.Go.OpenSpec.ofChange s with cond := some uptoSmall }

/-- 'laws.FnNodes', WHERE WHAT IT READS IS OF BULK AT MOST 1048576: true; the input reads as it did. -/
def fnNodesUptoRow : OpenClaim := { program := "ytgmkfhhlnhgkhaagreatdoor", sum := "d625f4746dfe7d3cac427db51018f64005aaa3a3ce4e14ebc2ddc85d629d6551", func := "loop.example/g00756/laws.FnNodes", spec := "fnNodes", inPlace := ["internal/bytealg.abigen_runtime_cmpstring", "internal/reflectlite.ValueOf", "(internal/reflectlite.Value).Type", "(internal/reflectlite.Value).IsNil", "internal/reflectlite.TypeOf", "(internal/reflectlite.Value).Elem", "(internal/reflectlite.Value).Set"], unfollowed := true, recurses := true, named := ["errors.errorType"], apart := false, laid := [("errors.errorType", laid_errors_errorType)], narrowed := true }
def FnNodesUptoSaid : Prop := fnNodesUptoRow.holds Tryz.pinned (OpenSpec.upto fnNodesSpec)

/-- 'laws.FnFound', WHERE WHAT IT READS IS OF BULK AT MOST 1048576: true; the input reads as it did. -/
def fnFoundUptoRow : OpenClaim := { program := "ytgmkfhhlnhgkhaagreatdoor", sum := "d625f4746dfe7d3cac427db51018f64005aaa3a3ce4e14ebc2ddc85d629d6551", func := "loop.example/g00756/laws.FnFound", spec := "fnFound", inPlace := ["internal/bytealg.abigen_runtime_cmpstring", "internal/reflectlite.ValueOf", "(internal/reflectlite.Value).Type", "(internal/reflectlite.Value).IsNil", "internal/reflectlite.TypeOf", "(internal/reflectlite.Value).Elem", "(internal/reflectlite.Value).Set"], unfollowed := true, recurses := true, named := ["errors.errorType"], apart := false, laid := [("errors.errorType", laid_errors_errorType)], narrowed := true }
def FnFoundUptoSaid : Prop := fnFoundUptoRow.holds Tryz.pinned (OpenSpec.upto fnFoundSpec)

/-- 'laws.FnListed', WHERE WHAT IT READS IS OF BULK AT MOST 1048576: true; the input reads as it did. -/
def fnListedUptoRow : OpenClaim := { program := "ytgmkfhhlnhgkhaagreatdoor", sum := "d625f4746dfe7d3cac427db51018f64005aaa3a3ce4e14ebc2ddc85d629d6551", func := "loop.example/g00756/laws.FnListed", spec := "fnListed", inPlace := ["internal/bytealg.abigen_runtime_cmpstring", "internal/reflectlite.ValueOf", "(internal/reflectlite.Value).Type", "(internal/reflectlite.Value).IsNil", "internal/reflectlite.TypeOf", "(internal/reflectlite.Value).Elem", "(internal/reflectlite.Value).Set"], unfollowed := true, recurses := true, named := ["errors.errorType", "loop.example/g00756/impl.codeTexts"], apart := false, laid := [("errors.errorType", laid_errors_errorType), ("loop.example/g00756/impl.codeTexts", laid_loop_example_g00756_impl_codeTexts)], narrowed := true }
def FnListedUptoSaid : Prop := fnListedUptoRow.holds Tryz.pinned (OpenSpec.upto fnListedSpec)

/-- 'laws.FnExactFindNode', WHERE WHAT IT READS IS OF BULK AT MOST 1048576: true; the input reads as it did. -/
def fnExactFindNodeUptoRow : OpenClaim := { program := "ytgmkfhhlnhgkhaagreatdoor", sum := "d625f4746dfe7d3cac427db51018f64005aaa3a3ce4e14ebc2ddc85d629d6551", func := "loop.example/g00756/laws.FnExactFindNode", spec := "fnExactFindNode", inPlace := ["internal/bytealg.abigen_runtime_cmpstring", "internal/reflectlite.ValueOf", "(internal/reflectlite.Value).Type", "(internal/reflectlite.Value).IsNil", "internal/reflectlite.TypeOf", "(internal/reflectlite.Value).Elem", "(internal/reflectlite.Value).Set"], unfollowed := true, recurses := true, named := ["errors.errorType"], apart := false, laid := [("errors.errorType", laid_errors_errorType)], narrowed := true }
def FnExactFindNodeUptoSaid : Prop := fnExactFindNodeUptoRow.holds Tryz.pinned (OpenSpec.upto fnExactFindNodeSpec)

/-- 'laws.FnExactFindPlace', WHERE WHAT IT READS IS OF BULK AT MOST 1048576: true; the input reads as it did. -/
def fnExactFindPlaceUptoRow : OpenClaim := { program := "ytgmkfhhlnhgkhaagreatdoor", sum := "d625f4746dfe7d3cac427db51018f64005aaa3a3ce4e14ebc2ddc85d629d6551", func := "loop.example/g00756/laws.FnExactFindPlace", spec := "fnExactFindPlace", inPlace := ["internal/bytealg.abigen_runtime_cmpstring", "internal/reflectlite.ValueOf", "(internal/reflectlite.Value).Type", "(internal/reflectlite.Value).IsNil", "internal/reflectlite.TypeOf", "(internal/reflectlite.Value).Elem", "(internal/reflectlite.Value).Set"], unfollowed := true, recurses := true, named := ["errors.errorType"], apart := false, laid := [("errors.errorType", laid_errors_errorType)], narrowed := true }
def FnExactFindPlaceUptoSaid : Prop := fnExactFindPlaceUptoRow.holds Tryz.pinned (OpenSpec.upto fnExactFindPlaceSpec)

/-- 'laws.FnExactReadLink', WHERE WHAT IT READS IS OF BULK AT MOST 1048576: true; the input reads as it did. -/
def fnExactReadLinkUptoRow : OpenClaim := { program := "ytgmkfhhlnhgkhaagreatdoor", sum := "d625f4746dfe7d3cac427db51018f64005aaa3a3ce4e14ebc2ddc85d629d6551", func := "loop.example/g00756/laws.FnExactReadLink", spec := "fnExactReadLink", inPlace := ["internal/bytealg.abigen_runtime_cmpstring", "internal/reflectlite.ValueOf", "(internal/reflectlite.Value).Type", "(internal/reflectlite.Value).IsNil", "internal/reflectlite.TypeOf", "(internal/reflectlite.Value).Elem", "(internal/reflectlite.Value).Set"], unfollowed := true, recurses := true, named := ["errors.errorType"], apart := false, laid := [("errors.errorType", laid_errors_errorType)], narrowed := true }
def FnExactReadLinkUptoSaid : Prop := fnExactReadLinkUptoRow.holds Tryz.pinned (OpenSpec.upto fnExactReadLinkSpec)

/-- 'laws.FnExactListDir', WHERE WHAT IT READS IS OF BULK AT MOST 1048576: true; the input reads as it did. -/
def fnExactListDirUptoRow : OpenClaim := { program := "ytgmkfhhlnhgkhaagreatdoor", sum := "d625f4746dfe7d3cac427db51018f64005aaa3a3ce4e14ebc2ddc85d629d6551", func := "loop.example/g00756/laws.FnExactListDir", spec := "fnExactListDir", inPlace := ["internal/bytealg.abigen_runtime_cmpstring", "internal/reflectlite.ValueOf", "(internal/reflectlite.Value).Type", "(internal/reflectlite.Value).IsNil", "internal/reflectlite.TypeOf", "(internal/reflectlite.Value).Elem", "(internal/reflectlite.Value).Set"], unfollowed := true, recurses := true, named := ["errors.errorType"], apart := false, laid := [("errors.errorType", laid_errors_errorType)], narrowed := true }
def FnExactListDirUptoSaid : Prop := fnExactListDirUptoRow.holds Tryz.pinned (OpenSpec.upto fnExactListDirSpec)

/-- 'laws.FnExactRealPath', WHERE WHAT IT READS IS OF BULK AT MOST 1048576: true; the input reads as it did. -/
def fnExactRealPathUptoRow : OpenClaim := { program := "ytgmkfhhlnhgkhaagreatdoor", sum := "d625f4746dfe7d3cac427db51018f64005aaa3a3ce4e14ebc2ddc85d629d6551", func := "loop.example/g00756/laws.FnExactRealPath", spec := "fnExactRealPath", inPlace := ["internal/bytealg.abigen_runtime_cmpstring", "internal/reflectlite.ValueOf", "(internal/reflectlite.Value).Type", "(internal/reflectlite.Value).IsNil", "internal/reflectlite.TypeOf", "(internal/reflectlite.Value).Elem", "(internal/reflectlite.Value).Set"], unfollowed := true, recurses := true, named := ["errors.errorType"], apart := false, laid := [("errors.errorType", laid_errors_errorType)], narrowed := true }
def FnExactRealPathUptoSaid : Prop := fnExactRealPathUptoRow.holds Tryz.pinned (OpenSpec.upto fnExactRealPathSpec)

end Rows
end Go.Proofs.YtgmkfhhlnhgkhaaGreatDoor
