/-
  NARROWER THAN 'FOR EVERY INPUT', by the rows' own cells (each row's printed sentence says how): FnExactDuLines: laid · FnExactStatOf: laid · FnExactSetMode: laid · FnExactSetTime: laid · FnExactSetOwner: laid · FnExactWriteFile: laid.
  DERIVED. THE GIVEN ROWS OF THIS SEAT. 6 by the template 'for every input the law returns true; each argument reads behind the call as it read before'; 0 by the template 'total and deterministic' (their statements: YtpkmkpeabfmbiaaGreatDoorTotals.lean).
  GIVEN WITH THE SEED: the statements are not yours to turn. If you find one false, say at which input.
  Laid BY PROGRAM, IN A SANDBOX (cutbox-rows.mjs): the forced cells as the released guide's own fill.sh prints them over the translation 644795227568b821… (all of the seat's roots in one cut). By AI agents, Wed Nov 11 2026. No macro, syntax, notation, axiom, sorry.
-/
import Derived.Test.YtpkmkpeabfmbiaaGreatDoorChecked
import GoSem.Claim
import GoSem.ClaimJoined
import GoSem.ClaimMapViews
import Derived.JoinedTies
import Derived.KernelRfl
namespace Go.Proofs.YtpkmkpeabfmbiaaGreatDoor
/- THE CELL 'sum', in the pinned program and in every row, IS THE sha256 OF THE DUMP (.gsa) THAT YtpkmkpeabfmbiaaGreatDoorProg.lean LOADS. Nothing in Lean hashes anything: it is a label: what it is worth is what the hold of that sum in a sandbox is worth. -/
noncomputable def Tryz.pinned : Pinned := { name := "ytpkmkpeabfmbiaagreatdoor", sum := "644795227568b821d50542c389b0808ff7e625c9efcdc5e0feb2b117c615c43c", checked := Tryz.checked }
namespace Rows
def none {H : Type} : Left H := { results := [], args := [] }

/- WHAT THE LISTED PACKAGE-LEVEL VARIABLES READ AS WHEN THE CALL BEGINS. Each datum BY PROGRAM (the guide's laid-datum.mjs) off the statement by which the dump's own 'gosem.cut.vars' lays the variable. In a bare row this is a premise. The card (YtpkmkpeabfmbiaaGreatDoorCards.lean) ties it to the program's text. -/
def laid_errors_errorType {H : Type} : DataW H := .iface "internal/reflectlite.rtype" (.agg [.ptr (.lit (.string [101, 114, 114, 111, 114]))])

/-- 'laws.FnExactDuLines': WHATEVER THE INPUT: true; the input reads as it did. -/
def fnExactDuLinesSpec : ChangeSpec := { name := "fnExactDuLines", fn := fun _ => fun
  | [d1, d2, d3, d4] => { results := [.lit (.bool true)], args := [d1, d2, d3, d4] }
  | _ => none }
def fnExactDuLinesRow : OpenClaim := { program := "ytpkmkpeabfmbiaagreatdoor", sum := "644795227568b821d50542c389b0808ff7e625c9efcdc5e0feb2b117c615c43c", func := "loop.example/g00756/laws.FnExactDuLines", spec := "fnExactDuLines", inPlace := ["internal/bytealg.abigen_runtime_cmpstring", "internal/reflectlite.ValueOf", "(internal/reflectlite.Value).Type", "(internal/reflectlite.Value).IsNil", "internal/reflectlite.TypeOf", "(internal/reflectlite.Value).Elem", "(internal/reflectlite.Value).Set"], unfollowed := true, recurses := true, named := ["errors.errorType"], apart := false, laid := [("errors.errorType", laid_errors_errorType)] }
def FnExactDuLinesSaid : Prop := fnExactDuLinesRow.holds Tryz.pinned (OpenSpec.ofChange fnExactDuLinesSpec)

/-- ITS FALSE NEIGHBOUR: 'it returns false'. Refute it at one input. -/
def fnExactDuLinesWrong : ChangeSpec := { name := "fnExactDuLines", fn := fun _ => fun
  | [d1, d2, d3, d4] => { results := [.lit (.bool false)], args := [d1, d2, d3, d4] }
  | _ => none }
def FnExactDuLinesWrongFalsely : Prop := fnExactDuLinesRow.holds Tryz.pinned (OpenSpec.ofChange fnExactDuLinesWrong)

/-- 'laws.FnExactStatOf': WHATEVER THE INPUT: true; the input reads as it did. -/
def fnExactStatOfSpec : ChangeSpec := { name := "fnExactStatOf", fn := fun _ => fun
  | [d1, d2, d3, d4] => { results := [.lit (.bool true)], args := [d1, d2, d3, d4] }
  | _ => none }
def fnExactStatOfRow : OpenClaim := { program := "ytpkmkpeabfmbiaagreatdoor", sum := "644795227568b821d50542c389b0808ff7e625c9efcdc5e0feb2b117c615c43c", func := "loop.example/g00756/laws.FnExactStatOf", spec := "fnExactStatOf", inPlace := ["internal/bytealg.abigen_runtime_cmpstring", "internal/reflectlite.ValueOf", "(internal/reflectlite.Value).Type", "(internal/reflectlite.Value).IsNil", "internal/reflectlite.TypeOf", "(internal/reflectlite.Value).Elem", "(internal/reflectlite.Value).Set"], unfollowed := true, recurses := true, named := ["errors.errorType"], apart := false, laid := [("errors.errorType", laid_errors_errorType)] }
def FnExactStatOfSaid : Prop := fnExactStatOfRow.holds Tryz.pinned (OpenSpec.ofChange fnExactStatOfSpec)

/-- ITS FALSE NEIGHBOUR: 'it returns false'. Refute it at one input. -/
def fnExactStatOfWrong : ChangeSpec := { name := "fnExactStatOf", fn := fun _ => fun
  | [d1, d2, d3, d4] => { results := [.lit (.bool false)], args := [d1, d2, d3, d4] }
  | _ => none }
def FnExactStatOfWrongFalsely : Prop := fnExactStatOfRow.holds Tryz.pinned (OpenSpec.ofChange fnExactStatOfWrong)

/-- 'laws.FnExactSetMode': WHATEVER THE INPUT: true; the input reads as it did. -/
def fnExactSetModeSpec : ChangeSpec := { name := "fnExactSetMode", fn := fun _ => fun
  | [d1, d2, d3, d4] => { results := [.lit (.bool true)], args := [d1, d2, d3, d4] }
  | _ => none }
def fnExactSetModeRow : OpenClaim := { program := "ytpkmkpeabfmbiaagreatdoor", sum := "644795227568b821d50542c389b0808ff7e625c9efcdc5e0feb2b117c615c43c", func := "loop.example/g00756/laws.FnExactSetMode", spec := "fnExactSetMode", inPlace := ["internal/bytealg.abigen_runtime_cmpstring", "internal/reflectlite.ValueOf", "(internal/reflectlite.Value).Type", "(internal/reflectlite.Value).IsNil", "internal/reflectlite.TypeOf", "(internal/reflectlite.Value).Elem", "(internal/reflectlite.Value).Set"], unfollowed := true, recurses := true, named := ["errors.errorType"], apart := false, laid := [("errors.errorType", laid_errors_errorType)] }
def FnExactSetModeSaid : Prop := fnExactSetModeRow.holds Tryz.pinned (OpenSpec.ofChange fnExactSetModeSpec)

/-- ITS FALSE NEIGHBOUR: 'it returns false'. Refute it at one input. -/
def fnExactSetModeWrong : ChangeSpec := { name := "fnExactSetMode", fn := fun _ => fun
  | [d1, d2, d3, d4] => { results := [.lit (.bool false)], args := [d1, d2, d3, d4] }
  | _ => none }
def FnExactSetModeWrongFalsely : Prop := fnExactSetModeRow.holds Tryz.pinned (OpenSpec.ofChange fnExactSetModeWrong)

/-- 'laws.FnExactSetTime': WHATEVER THE INPUT: true; the input reads as it did. -/
def fnExactSetTimeSpec : ChangeSpec := { name := "fnExactSetTime", fn := fun _ => fun
  | [d1, d2, d3, d4] => { results := [.lit (.bool true)], args := [d1, d2, d3, d4] }
  | _ => none }
def fnExactSetTimeRow : OpenClaim := { program := "ytpkmkpeabfmbiaagreatdoor", sum := "644795227568b821d50542c389b0808ff7e625c9efcdc5e0feb2b117c615c43c", func := "loop.example/g00756/laws.FnExactSetTime", spec := "fnExactSetTime", inPlace := ["internal/bytealg.abigen_runtime_cmpstring", "internal/reflectlite.ValueOf", "(internal/reflectlite.Value).Type", "(internal/reflectlite.Value).IsNil", "internal/reflectlite.TypeOf", "(internal/reflectlite.Value).Elem", "(internal/reflectlite.Value).Set"], unfollowed := true, recurses := true, named := ["errors.errorType"], apart := false, laid := [("errors.errorType", laid_errors_errorType)] }
def FnExactSetTimeSaid : Prop := fnExactSetTimeRow.holds Tryz.pinned (OpenSpec.ofChange fnExactSetTimeSpec)

/-- ITS FALSE NEIGHBOUR: 'it returns false'. Refute it at one input. -/
def fnExactSetTimeWrong : ChangeSpec := { name := "fnExactSetTime", fn := fun _ => fun
  | [d1, d2, d3, d4] => { results := [.lit (.bool false)], args := [d1, d2, d3, d4] }
  | _ => none }
def FnExactSetTimeWrongFalsely : Prop := fnExactSetTimeRow.holds Tryz.pinned (OpenSpec.ofChange fnExactSetTimeWrong)

/-- 'laws.FnExactSetOwner': WHATEVER THE INPUT: true; the input reads as it did. -/
def fnExactSetOwnerSpec : ChangeSpec := { name := "fnExactSetOwner", fn := fun _ => fun
  | [d1, d2, d3, d4, d5, d6] => { results := [.lit (.bool true)], args := [d1, d2, d3, d4, d5, d6] }
  | _ => none }
def fnExactSetOwnerRow : OpenClaim := { program := "ytpkmkpeabfmbiaagreatdoor", sum := "644795227568b821d50542c389b0808ff7e625c9efcdc5e0feb2b117c615c43c", func := "loop.example/g00756/laws.FnExactSetOwner", spec := "fnExactSetOwner", inPlace := ["internal/bytealg.abigen_runtime_cmpstring", "internal/reflectlite.ValueOf", "(internal/reflectlite.Value).Type", "(internal/reflectlite.Value).IsNil", "internal/reflectlite.TypeOf", "(internal/reflectlite.Value).Elem", "(internal/reflectlite.Value).Set"], unfollowed := true, recurses := true, named := ["errors.errorType"], apart := false, laid := [("errors.errorType", laid_errors_errorType)] }
def FnExactSetOwnerSaid : Prop := fnExactSetOwnerRow.holds Tryz.pinned (OpenSpec.ofChange fnExactSetOwnerSpec)

/-- ITS FALSE NEIGHBOUR: 'it returns false'. Refute it at one input. -/
def fnExactSetOwnerWrong : ChangeSpec := { name := "fnExactSetOwner", fn := fun _ => fun
  | [d1, d2, d3, d4, d5, d6] => { results := [.lit (.bool false)], args := [d1, d2, d3, d4, d5, d6] }
  | _ => none }
def FnExactSetOwnerWrongFalsely : Prop := fnExactSetOwnerRow.holds Tryz.pinned (OpenSpec.ofChange fnExactSetOwnerWrong)

/-- 'laws.FnExactWriteFile': WHATEVER THE INPUT: true; the input reads as it did. -/
def fnExactWriteFileSpec : ChangeSpec := { name := "fnExactWriteFile", fn := fun _ => fun
  | [d1, d2, d3, d4, d5] => { results := [.lit (.bool true)], args := [d1, d2, d3, d4, d5] }
  | _ => none }
def fnExactWriteFileRow : OpenClaim := { program := "ytpkmkpeabfmbiaagreatdoor", sum := "644795227568b821d50542c389b0808ff7e625c9efcdc5e0feb2b117c615c43c", func := "loop.example/g00756/laws.FnExactWriteFile", spec := "fnExactWriteFile", inPlace := ["internal/bytealg.abigen_runtime_cmpstring", "internal/reflectlite.ValueOf", "(internal/reflectlite.Value).Type", "(internal/reflectlite.Value).IsNil", "internal/reflectlite.TypeOf", "(internal/reflectlite.Value).Elem", "(internal/reflectlite.Value).Set"], unfollowed := true, recurses := true, named := ["errors.errorType"], apart := false, laid := [("errors.errorType", laid_errors_errorType)] }
def FnExactWriteFileSaid : Prop := fnExactWriteFileRow.holds Tryz.pinned (OpenSpec.ofChange fnExactWriteFileSpec)

/-- ITS FALSE NEIGHBOUR: 'it returns false'. Refute it at one input. -/
def fnExactWriteFileWrong : ChangeSpec := { name := "fnExactWriteFile", fn := fun _ => fun
  | [d1, d2, d3, d4, d5] => { results := [.lit (.bool false)], args := [d1, d2, d3, d4, d5] }
  | _ => none }
def FnExactWriteFileWrongFalsely : Prop := fnExactWriteFileRow.holds Tryz.pinned (OpenSpec.ofChange fnExactWriteFileWrong)

/- THE SECOND FORM. 'bulk': how many values and letters a reading holds, each counted each time it is reached (what is shared counts as often as it is met; a slice's spare places count too). A statement '..UptoSaid' is the law's where the arguments, and the package variables that the reading takes, are together of bulk at most 1048576: NARROWER than '..Said'. Prove '..Said' where nothing that the law and all that it calls make is longer than what came in: it says more and counts as full. Else prove '..UptoSaid'. A law counts once. -/
mutual
def uptoBulk {H : Type} : DataW H → Nat
  | .lit (.string bytes) => bytes.length + 1
  | .lit _ => 1
  | .nil => 1
  | .ptr d => uptoBulk d + 1
  | .slice elems spare => uptoBulkAll elems + uptoBulkAll spare + 1
  | .agg parts => uptoBulkAll parts + 1
  | .iface _ d => uptoBulk d + 1
  | .map entries => uptoBulkEntries entries + 1
  | .held _ => 1
def uptoBulkAll {H : Type} : List (DataW H) → Nat
  | [] => 0
  | d :: r => uptoBulk d + uptoBulkAll r
def uptoBulkEntries {H : Type} : List (Lit × DataW H) → Nat
  | [] => 0
  | x :: r => uptoBulkEntry x + uptoBulkEntries r
def uptoBulkEntry {H : Type} : Lit × DataW H → Nat
  | (.string bytes, d) => bytes.length + uptoBulk d + 1
  | (_, d) => uptoBulk d + 1
 end
def uptoSmall : (H : Type) → List (DataW H) → Bool := fun _ ds => decide (uptoBulkAll ds ≤ 1048576)
def OpenSpec.upto (s : _root_.Go.ChangeSpec) : _root_.Go.OpenSpec := { _root_.Go.OpenSpec.ofChange s with cond := some uptoSmall }

/-- 'laws.FnExactDuLines', WHERE WHAT IT READS IS OF BULK AT MOST 1048576: true; the input reads as it did. -/
def fnExactDuLinesUptoRow : OpenClaim := { program := "ytpkmkpeabfmbiaagreatdoor", sum := "644795227568b821d50542c389b0808ff7e625c9efcdc5e0feb2b117c615c43c", func := "loop.example/g00756/laws.FnExactDuLines", spec := "fnExactDuLines", inPlace := ["internal/bytealg.abigen_runtime_cmpstring", "internal/reflectlite.ValueOf", "(internal/reflectlite.Value).Type", "(internal/reflectlite.Value).IsNil", "internal/reflectlite.TypeOf", "(internal/reflectlite.Value).Elem", "(internal/reflectlite.Value).Set"], unfollowed := true, recurses := true, named := ["errors.errorType"], apart := false, laid := [("errors.errorType", laid_errors_errorType)], narrowed := true }
def FnExactDuLinesUptoSaid : Prop := fnExactDuLinesUptoRow.holds Tryz.pinned (OpenSpec.upto fnExactDuLinesSpec)

/-- 'laws.FnExactStatOf', WHERE WHAT IT READS IS OF BULK AT MOST 1048576: true; the input reads as it did. -/
def fnExactStatOfUptoRow : OpenClaim := { program := "ytpkmkpeabfmbiaagreatdoor", sum := "644795227568b821d50542c389b0808ff7e625c9efcdc5e0feb2b117c615c43c", func := "loop.example/g00756/laws.FnExactStatOf", spec := "fnExactStatOf", inPlace := ["internal/bytealg.abigen_runtime_cmpstring", "internal/reflectlite.ValueOf", "(internal/reflectlite.Value).Type", "(internal/reflectlite.Value).IsNil", "internal/reflectlite.TypeOf", "(internal/reflectlite.Value).Elem", "(internal/reflectlite.Value).Set"], unfollowed := true, recurses := true, named := ["errors.errorType"], apart := false, laid := [("errors.errorType", laid_errors_errorType)], narrowed := true }
def FnExactStatOfUptoSaid : Prop := fnExactStatOfUptoRow.holds Tryz.pinned (OpenSpec.upto fnExactStatOfSpec)

/-- 'laws.FnExactSetMode', WHERE WHAT IT READS IS OF BULK AT MOST 1048576: true; the input reads as it did. -/
def fnExactSetModeUptoRow : OpenClaim := { program := "ytpkmkpeabfmbiaagreatdoor", sum := "644795227568b821d50542c389b0808ff7e625c9efcdc5e0feb2b117c615c43c", func := "loop.example/g00756/laws.FnExactSetMode", spec := "fnExactSetMode", inPlace := ["internal/bytealg.abigen_runtime_cmpstring", "internal/reflectlite.ValueOf", "(internal/reflectlite.Value).Type", "(internal/reflectlite.Value).IsNil", "internal/reflectlite.TypeOf", "(internal/reflectlite.Value).Elem", "(internal/reflectlite.Value).Set"], unfollowed := true, recurses := true, named := ["errors.errorType"], apart := false, laid := [("errors.errorType", laid_errors_errorType)], narrowed := true }
def FnExactSetModeUptoSaid : Prop := fnExactSetModeUptoRow.holds Tryz.pinned (OpenSpec.upto fnExactSetModeSpec)

/-- 'laws.FnExactSetTime', WHERE WHAT IT READS IS OF BULK AT MOST 1048576: true; the input reads as it did. -/
def fnExactSetTimeUptoRow : OpenClaim := { program := "ytpkmkpeabfmbiaagreatdoor", sum := "644795227568b821d50542c389b0808ff7e625c9efcdc5e0feb2b117c615c43c", func := "loop.example/g00756/laws.FnExactSetTime", spec := "fnExactSetTime", inPlace := ["internal/bytealg.abigen_runtime_cmpstring", "internal/reflectlite.ValueOf", "(internal/reflectlite.Value).Type", "(internal/reflectlite.Value).IsNil", "internal/reflectlite.TypeOf", "(internal/reflectlite.Value).Elem", "(internal/reflectlite.Value).Set"], unfollowed := true, recurses := true, named := ["errors.errorType"], apart := false, laid := [("errors.errorType", laid_errors_errorType)], narrowed := true }
def FnExactSetTimeUptoSaid : Prop := fnExactSetTimeUptoRow.holds Tryz.pinned (OpenSpec.upto fnExactSetTimeSpec)

/-- 'laws.FnExactSetOwner', WHERE WHAT IT READS IS OF BULK AT MOST 1048576: true; the input reads as it did. -/
def fnExactSetOwnerUptoRow : OpenClaim := { program := "ytpkmkpeabfmbiaagreatdoor", sum := "644795227568b821d50542c389b0808ff7e625c9efcdc5e0feb2b117c615c43c", func := "loop.example/g00756/laws.FnExactSetOwner", spec := "fnExactSetOwner", inPlace := ["internal/bytealg.abigen_runtime_cmpstring", "internal/reflectlite.ValueOf", "(internal/reflectlite.Value).Type", "(internal/reflectlite.Value).IsNil", "internal/reflectlite.TypeOf", "(internal/reflectlite.Value).Elem", "(internal/reflectlite.Value).Set"], unfollowed := true, recurses := true, named := ["errors.errorType"], apart := false, laid := [("errors.errorType", laid_errors_errorType)], narrowed := true }
def FnExactSetOwnerUptoSaid : Prop := fnExactSetOwnerUptoRow.holds Tryz.pinned (OpenSpec.upto fnExactSetOwnerSpec)

/-- 'laws.FnExactWriteFile', WHERE WHAT IT READS IS OF BULK AT MOST 1048576: true; the input reads as it did. -/
def fnExactWriteFileUptoRow : OpenClaim := { program := "ytpkmkpeabfmbiaagreatdoor", sum := "644795227568b821d50542c389b0808ff7e625c9efcdc5e0feb2b117c615c43c", func := "loop.example/g00756/laws.FnExactWriteFile", spec := "fnExactWriteFile", inPlace := ["internal/bytealg.abigen_runtime_cmpstring", "internal/reflectlite.ValueOf", "(internal/reflectlite.Value).Type", "(internal/reflectlite.Value).IsNil", "internal/reflectlite.TypeOf", "(internal/reflectlite.Value).Elem", "(internal/reflectlite.Value).Set"], unfollowed := true, recurses := true, named := ["errors.errorType"], apart := false, laid := [("errors.errorType", laid_errors_errorType)], narrowed := true }
def FnExactWriteFileUptoSaid : Prop := fnExactWriteFileUptoRow.holds Tryz.pinned (OpenSpec.upto fnExactWriteFileSpec)

end Rows
end Go.Proofs.YtpkmkpeabfmbiaaGreatDoor
