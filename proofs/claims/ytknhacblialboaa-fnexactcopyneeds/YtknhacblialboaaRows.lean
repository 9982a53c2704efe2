/-
  No cell of these rows narrows 'for every input' (looked for: loops, veiled, ifaces, maps, wideKeys, modest, calm, conditions, laid).
  DERIVED. THE GIVEN ROWS OF THIS SEAT. 4 by the template 'for every input the law returns true; each argument reads behind the call as it read before'; 0 by the template 'total and deterministic' (their statements: YtknhacblialboaaTotals.lean).
  GIVEN WITH THE SEED: the statements are not yours to turn. If you find one false, say at which input.
  Laid BY PROGRAM, IN A SANDBOX (cutbox-rows.mjs): the forced cells as the released guide's own fill.sh prints them over the translation 1283c8b53d412451… (all of the seat's roots in one cut). By AI agents, Wed Nov 11 2026. No macro, syntax, notation, axiom, sorry.
-/
import Derived.Test.YtknhacblialboaaChecked
import GoSem.Claim
import GoSem.ClaimJoined
import GoSem.ClaimMapViews
import Derived.JoinedTies
import Derived.KernelRfl
namespace Go.Proofs.Ytknhacblialboaa
/- THE CELL 'sum', in the pinned program and in every row, IS THE sha256 OF THE DUMP (.gsa) THAT YtknhacblialboaaProg.lean LOADS. Nothing in Lean hashes anything: it is a label: what it is worth is what the hold of that sum in a sandbox is worth. -/
noncomputable def Try.pinned : Pinned := { name := "ytknhacblialboaa", sum := "1283c8b53d412451efb5684fdf1f630e2ab6a0be7a837a9ab5877aee1daa3bfb", checked := Try.checked }
namespace Rows
def none {H : Type} : Left H := { results := [], args := [] }

/-- 'laws.FnExactGroupsIn': WHATEVER THE INPUT: true; the input reads as it did. -/
def fnExactGroupsInSpec : ChangeSpec := { name := "fnExactGroupsIn", fn := fun _ => fun
  | [d1, d2] => { results := [.lit (.bool true)], args := [d1, d2] }
  | _ => none }
def fnExactGroupsInRow : OpenClaim := { program := "ytknhacblialboaa", sum := "1283c8b53d412451efb5684fdf1f630e2ab6a0be7a837a9ab5877aee1daa3bfb", func := "loop.example/g00756/laws.FnExactGroupsIn", spec := "fnExactGroupsIn", inPlace := ["internal/abi.NoEscape", "internal/bytealg.MakeNoZero"], unfollowed := true, recurses := true, apart := false }
def FnExactGroupsInSaid : Prop := fnExactGroupsInRow.holds Try.pinned (OpenSpec.ofChange fnExactGroupsInSpec)

/-- ITS FALSE NEIGHBOUR: 'it returns false'. Refute it at one input. -/
def fnExactGroupsInWrong : ChangeSpec := { name := "fnExactGroupsIn", fn := fun _ => fun
  | [d1, d2] => { results := [.lit (.bool false)], args := [d1, d2] }
  | _ => none }
def FnExactGroupsInWrongFalsely : Prop := fnExactGroupsInRow.holds Try.pinned (OpenSpec.ofChange fnExactGroupsInWrong)

/-- 'laws.FnExactCopyNeeds': WHATEVER THE INPUT: true; the input reads as it did. -/
def fnExactCopyNeedsSpec : ChangeSpec := { name := "fnExactCopyNeeds", fn := fun _ => fun
  | [d1, d2] => { results := [.lit (.bool true)], args := [d1, d2] }
  | _ => none }
def fnExactCopyNeedsRow : OpenClaim := { program := "ytknhacblialboaa", sum := "1283c8b53d412451efb5684fdf1f630e2ab6a0be7a837a9ab5877aee1daa3bfb", func := "loop.example/g00756/laws.FnExactCopyNeeds", spec := "fnExactCopyNeeds", unfollowed := true, recurses := true, apart := false }
def FnExactCopyNeedsSaid : Prop := fnExactCopyNeedsRow.holds Try.pinned (OpenSpec.ofChange fnExactCopyNeedsSpec)

/-- ITS FALSE NEIGHBOUR: 'it returns false'. Refute it at one input. -/
def fnExactCopyNeedsWrong : ChangeSpec := { name := "fnExactCopyNeeds", fn := fun _ => fun
  | [d1, d2] => { results := [.lit (.bool false)], args := [d1, d2] }
  | _ => none }
def FnExactCopyNeedsWrongFalsely : Prop := fnExactCopyNeedsRow.holds Try.pinned (OpenSpec.ofChange fnExactCopyNeedsWrong)

/-- 'laws.FnExactFitsCopy': WHATEVER THE INPUT: true; the input reads as it did. -/
def fnExactFitsCopySpec : ChangeSpec := { name := "fnExactFitsCopy", fn := fun _ => fun
  | [d1, d2] => { results := [.lit (.bool true)], args := [d1, d2] }
  | _ => none }
def fnExactFitsCopyRow : OpenClaim := { program := "ytknhacblialboaa", sum := "1283c8b53d412451efb5684fdf1f630e2ab6a0be7a837a9ab5877aee1daa3bfb", func := "loop.example/g00756/laws.FnExactFitsCopy", spec := "fnExactFitsCopy", unfollowed := true, recurses := true, apart := false }
def FnExactFitsCopySaid : Prop := fnExactFitsCopyRow.holds Try.pinned (OpenSpec.ofChange fnExactFitsCopySpec)

/-- ITS FALSE NEIGHBOUR: 'it returns false'. Refute it at one input. -/
def fnExactFitsCopyWrong : ChangeSpec := { name := "fnExactFitsCopy", fn := fun _ => fun
  | [d1, d2] => { results := [.lit (.bool false)], args := [d1, d2] }
  | _ => none }
def FnExactFitsCopyWrongFalsely : Prop := fnExactFitsCopyRow.holds Try.pinned (OpenSpec.ofChange fnExactFitsCopyWrong)

/-- 'laws.FnExactSortFaults': WHATEVER THE INPUT: true; the input reads as it did. -/
def fnExactSortFaultsSpec : ChangeSpec := { name := "fnExactSortFaults", fn := fun _ => fun
  | [d] => { results := [.lit (.bool true)], args := [d] }
  | _ => none }
def fnExactSortFaultsRow : OpenClaim := { program := "ytknhacblialboaa", sum := "1283c8b53d412451efb5684fdf1f630e2ab6a0be7a837a9ab5877aee1daa3bfb", func := "loop.example/g00756/laws.FnExactSortFaults", spec := "fnExactSortFaults", inPlace := ["internal/bytealg.abigen_runtime_cmpstring"], unfollowed := true, recurses := true, apart := false }
def FnExactSortFaultsSaid : Prop := fnExactSortFaultsRow.holds Try.pinned (OpenSpec.ofChange fnExactSortFaultsSpec)

/-- ITS FALSE NEIGHBOUR: 'it returns false'. Refute it at one input. -/
def fnExactSortFaultsWrong : ChangeSpec := { name := "fnExactSortFaults", fn := fun _ => fun
  | [d] => { results := [.lit (.bool false)], args := [d] }
  | _ => none }
def FnExactSortFaultsWrongFalsely : Prop := fnExactSortFaultsRow.holds Try.pinned (OpenSpec.ofChange fnExactSortFaultsWrong)

/- THE SECOND FORM. 'bulk': how many values and letters a reading holds, each counted each time it is reached (what is shared counts as often as it is met; a slice's spare places count too). A statement '..UptoSaid' is the law's where the arguments, and the package variables that the reading takes, are together of bulk at most 1048576: NARROWER than '..Said'. Prove '..Said' where nothing that the law and all that it calls make is longer than what came in: it says more and counts as full. Else prove '..UptoSaid'. A law counts once. -/
mutual
def uptoBulk {H : Type} : DataW H → Nat
  | .lit (.string bytes) => bytes.length + 1
  | .lit _ => 1
  | .nil => 1
  | .ptr d => uptoBulk d + 1
  | .slice elems spare => uptoBulkAll elems + uptoBulkAll spare + 1
  | .agg parts => uptoBulkAll parts + 1
  | .iface _ d => uptoBulk d + 1
  | .map entries => uptoBulkEntries entries + 1
  | .held _ => 1
def uptoBulkAll {H : Type} : List (DataW H) → Nat
  | [] => 0
  | d :: r => uptoBulk d + uptoBulkAll r
def uptoBulkEntries {H : Type} : List (Lit × DataW H) → Nat
  | [] => 0
  | x :: r => uptoBulkEntry x + uptoBulkEntries r
def uptoBulkEntry {H : Type} : Lit × DataW H → Nat
  | (.string bytes, d) => bytes.length + uptoBulk d + 1
  | (_, d) => uptoBulk d + 1
 end
def uptoSmall : (H : Type) → List (DataW H) → Bool := fun _ ds => decide (uptoBulkAll ds ≤ 1048576)
def OpenSpec.upto (s : _root_.Go.ChangeSpec) : _root_.Go.OpenSpec := { _root_.Go.OpenSpec.ofChange s with cond := some uptoSmall }

/-- 'laws.FnExactGroupsIn', WHERE WHAT IT READS IS OF BULK AT MOST 1048576: true; the input reads as it did. -/
def fnExactGroupsInUptoRow : OpenClaim := { program := "ytknhacblialboaa", sum := "1283c8b53d412451efb5684fdf1f630e2ab6a0be7a837a9ab5877aee1daa3bfb", func := "loop.example/g00756/laws.FnExactGroupsIn", spec := "fnExactGroupsIn", inPlace := ["internal/abi.NoEscape", "internal/bytealg.MakeNoZero"], unfollowed := true, recurses := true, apart := false, narrowed := true }
def FnExactGroupsInUptoSaid : Prop := fnExactGroupsInUptoRow.holds Try.pinned (OpenSpec.upto fnExactGroupsInSpec)

/-- 'laws.FnExactCopyNeeds', WHERE WHAT IT READS IS OF BULK AT MOST 1048576: true; the input reads as it did. -/
def fnExactCopyNeedsUptoRow : OpenClaim := { program := "ytknhacblialboaa", sum := "1283c8b53d412451efb5684fdf1f630e2ab6a0be7a837a9ab5877aee1daa3bfb", func := "loop.example/g00756/laws.FnExactCopyNeeds", spec := "fnExactCopyNeeds", unfollowed := true, recurses := true, apart := false, narrowed := true }
def FnExactCopyNeedsUptoSaid : Prop := fnExactCopyNeedsUptoRow.holds Try.pinned (OpenSpec.upto fnExactCopyNeedsSpec)

/-- 'laws.FnExactFitsCopy', WHERE WHAT IT READS IS OF BULK AT MOST 1048576: true; the input reads as it did. -/
def fnExactFitsCopyUptoRow : OpenClaim := { program := "ytknhacblialboaa", sum := "1283c8b53d412451efb5684fdf1f630e2ab6a0be7a837a9ab5877aee1daa3bfb", func := "loop.example/g00756/laws.FnExactFitsCopy", spec := "fnExactFitsCopy", unfollowed := true, recurses := true, apart := false, narrowed := true }
def FnExactFitsCopyUptoSaid : Prop := fnExactFitsCopyUptoRow.holds Try.pinned (OpenSpec.upto fnExactFitsCopySpec)

/-- 'laws.FnExactSortFaults', WHERE WHAT IT READS IS OF BULK AT MOST 1048576: true; the input reads as it did. -/
def fnExactSortFaultsUptoRow : OpenClaim := { program := "ytknhacblialboaa", sum := "1283c8b53d412451efb5684fdf1f630e2ab6a0be7a837a9ab5877aee1daa3bfb", func := "loop.example/g00756/laws.FnExactSortFaults", spec := "fnExactSortFaults", inPlace := ["internal/bytealg.abigen_runtime_cmpstring"], unfollowed := true, recurses := true, apart := false, narrowed := true }
def FnExactSortFaultsUptoSaid : Prop := fnExactSortFaultsUptoRow.holds Try.pinned (OpenSpec.upto fnExactSortFaultsSpec)

end Rows
end Go.Proofs.Ytknhacblialboaa
