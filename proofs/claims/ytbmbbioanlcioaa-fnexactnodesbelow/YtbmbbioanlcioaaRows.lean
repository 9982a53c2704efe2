/-
  No cell of these rows narrows 'for every input' (looked for: loops, veiled, ifaces, maps, wideKeys, modest, calm, conditions, laid).
  DERIVED. THE GIVEN ROWS OF THIS SEAT. 4 by the template 'for every input the law returns true; each argument reads behind the call as it read before'; 0 by the template 'total and deterministic' (their statements: YtbmbbioanlcioaaTotals.lean).
  GIVEN WITH THE SEED: the statements are not yours to turn. If you find one false, say at which input.
  Laid BY PROGRAM, IN A SANDBOX (cutbox-rows.mjs): the forced cells as the released guide's own fill.sh prints them over the translation be277a5c66d9ce54… (all of the seat's roots in one cut). By AI agents, Wed Nov 11 2026. No macro, syntax, notation, axiom, sorry.
-/
import Derived.Test.YtbmbbioanlcioaaChecked
import GoSem.Claim
import GoSem.ClaimJoined
import GoSem.ClaimMapViews
import Derived.JoinedTies
import Derived.KernelRfl
namespace Go.Proofs.Ytbmbbioanlcioaa
/- THE CELL 'sum', in the pinned program and in every row, IS THE sha256 OF THE DUMP (.gsa) THAT YtbmbbioanlcioaaProg.lean LOADS. Nothing in Lean hashes anything: it is a label: what it is worth is what the hold of that sum in a sandbox is worth. -/
noncomputable def Try.pinned : Pinned := { name := "ytbmbbioanlcioaa", sum := "be277a5c66d9ce549be68ff660e7fa8128b310729cdb4022ff0db92bcf82f3f2", checked := Try.checked }
namespace Rows
def none {H : Type} : Left H := { results := [], args := [] }

/-- 'laws.FnExactWalkPre': WHATEVER THE INPUT: true; the input reads as it did. -/
def fnExactWalkPreSpec : ChangeSpec := { name := "fnExactWalkPre", fn := fun _ => fun
  | [d1, d2] => { results := [.lit (.bool true)], args := [d1, d2] }
  | _ => none }
def fnExactWalkPreRow : OpenClaim := { program := "ytbmbbioanlcioaa", sum := "be277a5c66d9ce549be68ff660e7fa8128b310729cdb4022ff0db92bcf82f3f2", func := "loop.example/g00756/laws.FnExactWalkPre", spec := "fnExactWalkPre", inPlace := ["internal/abi.NoEscape", "internal/bytealg.MakeNoZero"], unfollowed := true, recurses := true, apart := false }
def FnExactWalkPreSaid : Prop := fnExactWalkPreRow.holds Try.pinned (OpenSpec.ofChange fnExactWalkPreSpec)

/-- ITS FALSE NEIGHBOUR: 'it returns false'. Refute it at one input. -/
def fnExactWalkPreWrong : ChangeSpec := { name := "fnExactWalkPre", fn := fun _ => fun
  | [d1, d2] => { results := [.lit (.bool false)], args := [d1, d2] }
  | _ => none }
def FnExactWalkPreWrongFalsely : Prop := fnExactWalkPreRow.holds Try.pinned (OpenSpec.ofChange fnExactWalkPreWrong)

/-- 'laws.FnExactWalkPost': WHATEVER THE INPUT: true; the input reads as it did. -/
def fnExactWalkPostSpec : ChangeSpec := { name := "fnExactWalkPost", fn := fun _ => fun
  | [d1, d2] => { results := [.lit (.bool true)], args := [d1, d2] }
  | _ => none }
def fnExactWalkPostRow : OpenClaim := { program := "ytbmbbioanlcioaa", sum := "be277a5c66d9ce549be68ff660e7fa8128b310729cdb4022ff0db92bcf82f3f2", func := "loop.example/g00756/laws.FnExactWalkPost", spec := "fnExactWalkPost", inPlace := ["internal/abi.NoEscape", "internal/bytealg.MakeNoZero"], unfollowed := true, recurses := true, apart := false }
def FnExactWalkPostSaid : Prop := fnExactWalkPostRow.holds Try.pinned (OpenSpec.ofChange fnExactWalkPostSpec)

/-- ITS FALSE NEIGHBOUR: 'it returns false'. Refute it at one input. -/
def fnExactWalkPostWrong : ChangeSpec := { name := "fnExactWalkPost", fn := fun _ => fun
  | [d1, d2] => { results := [.lit (.bool false)], args := [d1, d2] }
  | _ => none }
def FnExactWalkPostWrongFalsely : Prop := fnExactWalkPostRow.holds Try.pinned (OpenSpec.ofChange fnExactWalkPostWrong)

/-- 'laws.FnExactNodesBelow': WHATEVER THE INPUT: true; the input reads as it did. -/
def fnExactNodesBelowSpec : ChangeSpec := { name := "fnExactNodesBelow", fn := fun _ => fun
  | [d1, d2] => { results := [.lit (.bool true)], args := [d1, d2] }
  | _ => none }
def fnExactNodesBelowRow : OpenClaim := { program := "ytbmbbioanlcioaa", sum := "be277a5c66d9ce549be68ff660e7fa8128b310729cdb4022ff0db92bcf82f3f2", func := "loop.example/g00756/laws.FnExactNodesBelow", spec := "fnExactNodesBelow", unfollowed := true, recurses := true, apart := false }
def FnExactNodesBelowSaid : Prop := fnExactNodesBelowRow.holds Try.pinned (OpenSpec.ofChange fnExactNodesBelowSpec)

/-- ITS FALSE NEIGHBOUR: 'it returns false'. Refute it at one input. -/
def fnExactNodesBelowWrong : ChangeSpec := { name := "fnExactNodesBelow", fn := fun _ => fun
  | [d1, d2] => { results := [.lit (.bool false)], args := [d1, d2] }
  | _ => none }
def FnExactNodesBelowWrongFalsely : Prop := fnExactNodesBelowRow.holds Try.pinned (OpenSpec.ofChange fnExactNodesBelowWrong)

/-- 'laws.FnExactDeepOf': WHATEVER THE INPUT: true; the input reads as it did. -/
def fnExactDeepOfSpec : ChangeSpec := { name := "fnExactDeepOf", fn := fun _ => fun
  | [d1, d2] => { results := [.lit (.bool true)], args := [d1, d2] }
  | _ => none }
def fnExactDeepOfRow : OpenClaim := { program := "ytbmbbioanlcioaa", sum := "be277a5c66d9ce549be68ff660e7fa8128b310729cdb4022ff0db92bcf82f3f2", func := "loop.example/g00756/laws.FnExactDeepOf", spec := "fnExactDeepOf", unfollowed := true, recurses := true, apart := false }
def FnExactDeepOfSaid : Prop := fnExactDeepOfRow.holds Try.pinned (OpenSpec.ofChange fnExactDeepOfSpec)

/-- ITS FALSE NEIGHBOUR: 'it returns false'. Refute it at one input. -/
def fnExactDeepOfWrong : ChangeSpec := { name := "fnExactDeepOf", fn := fun _ => fun
  | [d1, d2] => { results := [.lit (.bool false)], args := [d1, d2] }
  | _ => none }
def FnExactDeepOfWrongFalsely : Prop := fnExactDeepOfRow.holds Try.pinned (OpenSpec.ofChange fnExactDeepOfWrong)

/- THE SECOND FORM. 'bulk': how many values and letters a reading holds, each counted each time it is reached (what is shared counts as often as it is met; a slice's spare places count too). A statement '..UptoSaid' is the law's where the arguments, and the package variables that the reading takes, are together of bulk at most 1048576: NARROWER than '..Said'. Prove '..Said' where nothing that the law and all that it calls make is longer than what came in: it says more and counts as full. Else prove '..UptoSaid'. A law counts once. -/
mutual
def uptoBulk {H : Type} : DataW H → Nat
  | .lit (.string bytes) => bytes.length + 1
  | .lit _ => 1
  | .nil => 1
  | .ptr d => uptoBulk d + 1
  | .slice elems spare => uptoBulkAll elems + uptoBulkAll spare + 1
  | .agg parts => uptoBulkAll parts + 1
  | .iface _ d => uptoBulk d + 1
  | .map entries => uptoBulkEntries entries + 1
  | .held _ => 1
def uptoBulkAll {H : Type} : List (DataW H) → Nat
  | [] => 0
  | d :: r => uptoBulk d + uptoBulkAll r
def uptoBulkEntries {H : Type} : List (Lit × DataW H) → Nat
  | [] => 0
  | x :: r => uptoBulkEntry x + uptoBulkEntries r
def uptoBulkEntry {H : Type} : Lit × DataW H → Nat
  | (.string bytes, d) => bytes.length + uptoBulk d + 1
  | (_, d) => uptoBulk d + 1
 end
def uptoSmall : (H : Type) → List (DataW H) → Bool := fun _ ds => decide (uptoBulkAll ds ≤ 1048576)
def OpenSpec.upto (s : _root_.Go.ChangeSpec) : _root_.Go.OpenSpec := { _root_.Go.OpenSpec.ofChange s with cond := some uptoSmall }

/-- 'laws.FnExactWalkPre', WHERE WHAT IT READS IS OF BULK AT MOST 1048576: true; the input reads as it did. -/
def fnExactWalkPreUptoRow : OpenClaim := { program := "ytbmbbioanlcioaa", sum := "be277a5c66d9ce549be68ff660e7fa8128b310729cdb4022ff0db92bcf82f3f2", func := "loop.example/g00756/laws.FnExactWalkPre", spec := "fnExactWalkPre", inPlace := ["internal/abi.NoEscape", "internal/bytealg.MakeNoZero"], unfollowed := true, recurses := true, apart := false, narrowed := true }
def FnExactWalkPreUptoSaid : Prop := fnExactWalkPreUptoRow.holds Try.pinned (OpenSpec.upto fnExactWalkPreSpec)

/-- 'laws.FnExactWalkPost', WHERE WHAT IT READS IS OF BULK AT MOST 1048576: true; the input reads as it did. -/
def fnExactWalkPostUptoRow : OpenClaim := { program := "ytbmbbioanlcioaa", sum := "be277a5c66d9ce549be68ff660e7fa8128b310729cdb4022ff0db92bcf82f3f2", func := "loop.example/g00756/laws.FnExactWalkPost", spec := "fnExactWalkPost", inPlace := ["internal/abi.NoEscape", "internal/bytealg.MakeNoZero"], unfollowed := true, recurses := true, apart := false, narrowed := true }
def FnExactWalkPostUptoSaid : Prop := fnExactWalkPostUptoRow.holds Try.pinned (OpenSpec.upto fnExactWalkPostSpec)

/-- 'laws.FnExactNodesBelow', WHERE WHAT IT READS IS OF BULK AT MOST 1048576: true; the input reads as it did. -/
def fnExactNodesBelowUptoRow : OpenClaim := { program := "ytbmbbioanlcioaa", sum := "be277a5c66d9ce549be68ff660e7fa8128b310729cdb4022ff0db92bcf82f3f2", func := "loop.example/g00756/laws.FnExactNodesBelow", spec := "fnExactNodesBelow", unfollowed := true, recurses := true, apart := false, narrowed := true }
def FnExactNodesBelowUptoSaid : Prop := fnExactNodesBelowUptoRow.holds Try.pinned (OpenSpec.upto fnExactNodesBelowSpec)

/-- 'laws.FnExactDeepOf', WHERE WHAT IT READS IS OF BULK AT MOST 1048576: true; the input reads as it did. -/
def fnExactDeepOfUptoRow : OpenClaim := { program := "ytbmbbioanlcioaa", sum := "be277a5c66d9ce549be68ff660e7fa8128b310729cdb4022ff0db92bcf82f3f2", func := "loop.example/g00756/laws.FnExactDeepOf", spec := "fnExactDeepOf", unfollowed := true, recurses := true, apart := false, narrowed := true }
def FnExactDeepOfUptoSaid : Prop := fnExactDeepOfUptoRow.holds Try.pinned (OpenSpec.upto fnExactDeepOfSpec)

end Rows
end Go.Proofs.Ytbmbbioanlcioaa
