/-
  No cell of these rows narrows 'for every input' (looked for: loops, veiled, ifaces, maps, wideKeys, modest, calm, conditions, laid).
  DERIVED. THE GIVEN ROWS OF THIS SEAT. 8 by the template 'for every input the law returns true; each argument reads behind the call as it read before'; 0 by the template 'total and deterministic' (their statements: YtdjpngdgbijedaaTotals.lean).
  GIVEN WITH THE SEED: the statements are not yours to turn. If you find one false, say at which input.
  Laid BY PROGRAM, IN A SANDBOX (cutbox-rows.mjs): the forced cells as the released guide's own fill.sh prints them over the translation ce786f4ba183ca06… (all of the seat's roots in one cut). By AI agents, Wed Nov 11 2026. No macro, syntax, notation, axiom, sorry.
-/
import Derived.Test.YtdjpngdgbijedaaChecked
import GoSem.Claim
import GoSem.ClaimJoined
import GoSem.ClaimMapViews
import Derived.JoinedTies
import Derived.KernelRfl
namespace Go.Proofs.Ytdjpngdgbijedaa
/- THE CELL 'sum', in the pinned program and in every row, IS THE sha256 OF THE DUMP (.gsa) THAT YtdjpngdgbijedaaProg.lean LOADS. Nothing in Lean hashes anything: it is a label: what it is worth is what the hold of that sum in a sandbox is worth. -/
noncomputable def Try.pinned : Pinned := { name := "ytdjpngdgbijedaa", sum := "ce786f4ba183ca0679a10ec2f7dacaf7051d71ef68b8d4aaf436af177c7b3453", checked := Try.checked }
namespace Rows
def none {H : Type} : Left H := { results := [], args := [] }

/-- 'laws.FnExactNewFs': WHATEVER THE INPUT: true; the input reads as it did. -/
def fnExactNewFsSpec : ChangeSpec := { name := "fnExactNewFs", fn := fun _ => fun
  | [d] => { results := [.lit (.bool true)], args := [d] }
  | _ => none }
def fnExactNewFsRow : OpenClaim := { program := "ytdjpngdgbijedaa", sum := "ce786f4ba183ca0679a10ec2f7dacaf7051d71ef68b8d4aaf436af177c7b3453", func := "loop.example/g00756/laws.FnExactNewFs", spec := "fnExactNewFs", apart := false }
def FnExactNewFsSaid : Prop := fnExactNewFsRow.holds Try.pinned (OpenSpec.ofChange fnExactNewFsSpec)

/-- ITS FALSE NEIGHBOUR: 'it returns false'. Refute it at one input. -/
def fnExactNewFsWrong : ChangeSpec := { name := "fnExactNewFs", fn := fun _ => fun
  | [d] => { results := [.lit (.bool false)], args := [d] }
  | _ => none }
def FnExactNewFsWrongFalsely : Prop := fnExactNewFsRow.holds Try.pinned (OpenSpec.ofChange fnExactNewFsWrong)

/-- 'laws.FnExactGoodFs': WHATEVER THE INPUT: true; the input reads as it did. -/
def fnExactGoodFsSpec : ChangeSpec := { name := "fnExactGoodFs", fn := fun _ => fun
  | [d] => { results := [.lit (.bool true)], args := [d] }
  | _ => none }
def fnExactGoodFsRow : OpenClaim := { program := "ytdjpngdgbijedaa", sum := "ce786f4ba183ca0679a10ec2f7dacaf7051d71ef68b8d4aaf436af177c7b3453", func := "loop.example/g00756/laws.FnExactGoodFs", spec := "fnExactGoodFs", unfollowed := true, recurses := true, apart := false }
def FnExactGoodFsSaid : Prop := fnExactGoodFsRow.holds Try.pinned (OpenSpec.ofChange fnExactGoodFsSpec)

/-- ITS FALSE NEIGHBOUR: 'it returns false'. Refute it at one input. -/
def fnExactGoodFsWrong : ChangeSpec := { name := "fnExactGoodFs", fn := fun _ => fun
  | [d] => { results := [.lit (.bool false)], args := [d] }
  | _ => none }
def FnExactGoodFsWrongFalsely : Prop := fnExactGoodFsRow.holds Try.pinned (OpenSpec.ofChange fnExactGoodFsWrong)

/-- 'laws.FnExactLinksOf': WHATEVER THE INPUT: true; the input reads as it did. -/
def fnExactLinksOfSpec : ChangeSpec := { name := "fnExactLinksOf", fn := fun _ => fun
  | [d1, d2] => { results := [.lit (.bool true)], args := [d1, d2] }
  | _ => none }
def fnExactLinksOfRow : OpenClaim := { program := "ytdjpngdgbijedaa", sum := "ce786f4ba183ca0679a10ec2f7dacaf7051d71ef68b8d4aaf436af177c7b3453", func := "loop.example/g00756/laws.FnExactLinksOf", spec := "fnExactLinksOf", unfollowed := true, recurses := true, apart := false }
def FnExactLinksOfSaid : Prop := fnExactLinksOfRow.holds Try.pinned (OpenSpec.ofChange fnExactLinksOfSpec)

/-- ITS FALSE NEIGHBOUR: 'it returns false'. Refute it at one input. -/
def fnExactLinksOfWrong : ChangeSpec := { name := "fnExactLinksOf", fn := fun _ => fun
  | [d1, d2] => { results := [.lit (.bool false)], args := [d1, d2] }
  | _ => none }
def FnExactLinksOfWrongFalsely : Prop := fnExactLinksOfRow.holds Try.pinned (OpenSpec.ofChange fnExactLinksOfWrong)

/-- 'laws.FnExactParentOf': WHATEVER THE INPUT: true; the input reads as it did. -/
def fnExactParentOfSpec : ChangeSpec := { name := "fnExactParentOf", fn := fun _ => fun
  | [d1, d2] => { results := [.lit (.bool true)], args := [d1, d2] }
  | _ => none }
def fnExactParentOfRow : OpenClaim := { program := "ytdjpngdgbijedaa", sum := "ce786f4ba183ca0679a10ec2f7dacaf7051d71ef68b8d4aaf436af177c7b3453", func := "loop.example/g00756/laws.FnExactParentOf", spec := "fnExactParentOf", unfollowed := true, recurses := true, apart := false }
def FnExactParentOfSaid : Prop := fnExactParentOfRow.holds Try.pinned (OpenSpec.ofChange fnExactParentOfSpec)

/-- ITS FALSE NEIGHBOUR: 'it returns false'. Refute it at one input. -/
def fnExactParentOfWrong : ChangeSpec := { name := "fnExactParentOf", fn := fun _ => fun
  | [d1, d2] => { results := [.lit (.bool false)], args := [d1, d2] }
  | _ => none }
def FnExactParentOfWrongFalsely : Prop := fnExactParentOfRow.holds Try.pinned (OpenSpec.ofChange fnExactParentOfWrong)

/-- 'laws.FnExactPathTo': WHATEVER THE INPUT: true; the input reads as it did. -/
def fnExactPathToSpec : ChangeSpec := { name := "fnExactPathTo", fn := fun _ => fun
  | [d1, d2] => { results := [.lit (.bool true)], args := [d1, d2] }
  | _ => none }
def fnExactPathToRow : OpenClaim := { program := "ytdjpngdgbijedaa", sum := "ce786f4ba183ca0679a10ec2f7dacaf7051d71ef68b8d4aaf436af177c7b3453", func := "loop.example/g00756/laws.FnExactPathTo", spec := "fnExactPathTo", unfollowed := true, recurses := true, apart := false }
def FnExactPathToSaid : Prop := fnExactPathToRow.holds Try.pinned (OpenSpec.ofChange fnExactPathToSpec)

/-- ITS FALSE NEIGHBOUR: 'it returns false'. Refute it at one input. -/
def fnExactPathToWrong : ChangeSpec := { name := "fnExactPathTo", fn := fun _ => fun
  | [d1, d2] => { results := [.lit (.bool false)], args := [d1, d2] }
  | _ => none }
def FnExactPathToWrongFalsely : Prop := fnExactPathToRow.holds Try.pinned (OpenSpec.ofChange fnExactPathToWrong)

/-- 'laws.FnExactBytesIn': WHATEVER THE INPUT: true; the input reads as it did. -/
def fnExactBytesInSpec : ChangeSpec := { name := "fnExactBytesIn", fn := fun _ => fun
  | [d] => { results := [.lit (.bool true)], args := [d] }
  | _ => none }
def fnExactBytesInRow : OpenClaim := { program := "ytdjpngdgbijedaa", sum := "ce786f4ba183ca0679a10ec2f7dacaf7051d71ef68b8d4aaf436af177c7b3453", func := "loop.example/g00756/laws.FnExactBytesIn", spec := "fnExactBytesIn", unfollowed := true, recurses := true, apart := false }
def FnExactBytesInSaid : Prop := fnExactBytesInRow.holds Try.pinned (OpenSpec.ofChange fnExactBytesInSpec)

/-- ITS FALSE NEIGHBOUR: 'it returns false'. Refute it at one input. -/
def fnExactBytesInWrong : ChangeSpec := { name := "fnExactBytesIn", fn := fun _ => fun
  | [d] => { results := [.lit (.bool false)], args := [d] }
  | _ => none }
def FnExactBytesInWrongFalsely : Prop := fnExactBytesInRow.holds Try.pinned (OpenSpec.ofChange fnExactBytesInWrong)

/-- 'laws.FnExactFreeNode': WHATEVER THE INPUT: true; the input reads as it did. -/
def fnExactFreeNodeSpec : ChangeSpec := { name := "fnExactFreeNode", fn := fun _ => fun
  | [d] => { results := [.lit (.bool true)], args := [d] }
  | _ => none }
def fnExactFreeNodeRow : OpenClaim := { program := "ytdjpngdgbijedaa", sum := "ce786f4ba183ca0679a10ec2f7dacaf7051d71ef68b8d4aaf436af177c7b3453", func := "loop.example/g00756/laws.FnExactFreeNode", spec := "fnExactFreeNode", unfollowed := true, recurses := true, apart := false }
def FnExactFreeNodeSaid : Prop := fnExactFreeNodeRow.holds Try.pinned (OpenSpec.ofChange fnExactFreeNodeSpec)

/-- ITS FALSE NEIGHBOUR: 'it returns false'. Refute it at one input. -/
def fnExactFreeNodeWrong : ChangeSpec := { name := "fnExactFreeNode", fn := fun _ => fun
  | [d] => { results := [.lit (.bool false)], args := [d] }
  | _ => none }
def FnExactFreeNodeWrongFalsely : Prop := fnExactFreeNodeRow.holds Try.pinned (OpenSpec.ofChange fnExactFreeNodeWrong)

/-- 'laws.FnExactSameFs': WHATEVER THE INPUT: true; the input reads as it did. -/
def fnExactSameFsSpec : ChangeSpec := { name := "fnExactSameFs", fn := fun _ => fun
  | [d1, d2] => { results := [.lit (.bool true)], args := [d1, d2] }
  | _ => none }
def fnExactSameFsRow : OpenClaim := { program := "ytdjpngdgbijedaa", sum := "ce786f4ba183ca0679a10ec2f7dacaf7051d71ef68b8d4aaf436af177c7b3453", func := "loop.example/g00756/laws.FnExactSameFs", spec := "fnExactSameFs", unfollowed := true, recurses := true, apart := false }
def FnExactSameFsSaid : Prop := fnExactSameFsRow.holds Try.pinned (OpenSpec.ofChange fnExactSameFsSpec)

/-- ITS FALSE NEIGHBOUR: 'it returns false'. Refute it at one input. -/
def fnExactSameFsWrong : ChangeSpec := { name := "fnExactSameFs", fn := fun _ => fun
  | [d1, d2] => { results := [.lit (.bool false)], args := [d1, d2] }
  | _ => none }
def FnExactSameFsWrongFalsely : Prop := fnExactSameFsRow.holds Try.pinned (OpenSpec.ofChange fnExactSameFsWrong)

/- THE SECOND FORM. 'bulk': how many values and letters a reading holds, each counted each time it is reached (what is shared counts as often as it is met; a slice's spare places count too). A statement '..UptoSaid' is the law's where the arguments, and the package variables that the reading takes, are together of bulk at most 1048576: NARROWER than '..Said'. Prove '..Said' where nothing that the law and all that it calls make is longer than what came in: it says more and counts as full. Else prove '..UptoSaid'. A law counts once. -/
mutual
def uptoBulk {H : Type} : DataW H → Nat
  | .lit (.string bytes) => bytes.length + 1
  | .lit _ => 1
  | .nil => 1
  | .ptr d => uptoBulk d + 1
  | .slice elems spare => uptoBulkAll elems + uptoBulkAll spare + 1
  | .agg parts => uptoBulkAll parts + 1
  | .iface _ d => uptoBulk d + 1
  | .map entries => uptoBulkEntries entries + 1
  | .held _ => 1
def uptoBulkAll {H : Type} : List (DataW H) → Nat
  | [] => 0
  | d :: r => uptoBulk d + uptoBulkAll r
def uptoBulkEntries {H : Type} : List (Lit × DataW H) → Nat
  | [] => 0
  | x :: r => uptoBulkEntry x + uptoBulkEntries r
def uptoBulkEntry {H : Type} : Lit × DataW H → Nat
  | (.string bytes, d) => bytes.length + uptoBulk d + 1
  | (_, d) => uptoBulk d + 1
 end
def uptoSmall : (H : Type) → List (DataW H) → Bool := fun _ ds => decide (uptoBulkAll ds ≤ 1048576)
def OpenSpec.upto (s : _root_.Go.ChangeSpec) : _root_.Go.OpenSpec := { _root_.Go.OpenSpec.ofChange s with cond := some uptoSmall }

/-- 'laws.FnExactNewFs', WHERE WHAT IT READS IS OF BULK AT MOST 1048576: true; the input reads as it did. -/
def fnExactNewFsUptoRow : OpenClaim := { program := "ytdjpngdgbijedaa", sum := "ce786f4ba183ca0679a10ec2f7dacaf7051d71ef68b8d4aaf436af177c7b3453", func := "loop.example/g00756/laws.FnExactNewFs", spec := "fnExactNewFs", apart := false, narrowed := true }
def FnExactNewFsUptoSaid : Prop := fnExactNewFsUptoRow.holds Try.pinned (OpenSpec.upto fnExactNewFsSpec)

/-- 'laws.FnExactGoodFs', WHERE WHAT IT READS IS OF BULK AT MOST 1048576: true; the input reads as it did. -/
def fnExactGoodFsUptoRow : OpenClaim := { program := "ytdjpngdgbijedaa", sum := "ce786f4ba183ca0679a10ec2f7dacaf7051d71ef68b8d4aaf436af177c7b3453", func := "loop.example/g00756/laws.FnExactGoodFs", spec := "fnExactGoodFs", unfollowed := true, recurses := true, apart := false, narrowed := true }
def FnExactGoodFsUptoSaid : Prop := fnExactGoodFsUptoRow.holds Try.pinned (OpenSpec.upto fnExactGoodFsSpec)

/-- 'laws.FnExactLinksOf', WHERE WHAT IT READS IS OF BULK AT MOST 1048576: true; the input reads as it did. -/
def fnExactLinksOfUptoRow : OpenClaim := { program := "ytdjpngdgbijedaa", sum := "ce786f4ba183ca0679a10ec2f7dacaf7051d71ef68b8d4aaf436af177c7b3453", func := "loop.example/g00756/laws.FnExactLinksOf", spec := "fnExactLinksOf", unfollowed := true, recurses := true, apart := false, narrowed := true }
def FnExactLinksOfUptoSaid : Prop := fnExactLinksOfUptoRow.holds Try.pinned (OpenSpec.upto fnExactLinksOfSpec)

/-- 'laws.FnExactParentOf', WHERE WHAT IT READS IS OF BULK AT MOST 1048576: true; the input reads as it did. -/
def fnExactParentOfUptoRow : OpenClaim := { program := "ytdjpngdgbijedaa", sum := "ce786f4ba183ca0679a10ec2f7dacaf7051d71ef68b8d4aaf436af177c7b3453", func := "loop.example/g00756/laws.FnExactParentOf", spec := "fnExactParentOf", unfollowed := true, recurses := true, apart := false, narrowed := true }
def FnExactParentOfUptoSaid : Prop := fnExactParentOfUptoRow.holds Try.pinned (OpenSpec.upto fnExactParentOfSpec)

/-- 'laws.FnExactPathTo', WHERE WHAT IT READS IS OF BULK AT MOST 1048576: true; the input reads as it did. -/
def fnExactPathToUptoRow : OpenClaim := { program := "ytdjpngdgbijedaa", sum := "ce786f4ba183ca0679a10ec2f7dacaf7051d71ef68b8d4aaf436af177c7b3453", func := "loop.example/g00756/laws.FnExactPathTo", spec := "fnExactPathTo", unfollowed := true, recurses := true, apart := false, narrowed := true }
def FnExactPathToUptoSaid : Prop := fnExactPathToUptoRow.holds Try.pinned (OpenSpec.upto fnExactPathToSpec)

/-- 'laws.FnExactBytesIn', WHERE WHAT IT READS IS OF BULK AT MOST 1048576: true; the input reads as it did. -/
def fnExactBytesInUptoRow : OpenClaim := { program := "ytdjpngdgbijedaa", sum := "ce786f4ba183ca0679a10ec2f7dacaf7051d71ef68b8d4aaf436af177c7b3453", func := "loop.example/g00756/laws.FnExactBytesIn", spec := "fnExactBytesIn", unfollowed := true, recurses := true, apart := false, narrowed := true }
def FnExactBytesInUptoSaid : Prop := fnExactBytesInUptoRow.holds Try.pinned (OpenSpec.upto fnExactBytesInSpec)

/-- 'laws.FnExactFreeNode', WHERE WHAT IT READS IS OF BULK AT MOST 1048576: true; the input reads as it did. -/
def fnExactFreeNodeUptoRow : OpenClaim := { program := "ytdjpngdgbijedaa", sum := "ce786f4ba183ca0679a10ec2f7dacaf7051d71ef68b8d4aaf436af177c7b3453", func := "loop.example/g00756/laws.FnExactFreeNode", spec := "fnExactFreeNode", unfollowed := true, recurses := true, apart := false, narrowed := true }
def FnExactFreeNodeUptoSaid : Prop := fnExactFreeNodeUptoRow.holds Try.pinned (OpenSpec.upto fnExactFreeNodeSpec)

/-- 'laws.FnExactSameFs', WHERE WHAT IT READS IS OF BULK AT MOST 1048576: true; the input reads as it did. -/
def fnExactSameFsUptoRow : OpenClaim := { program := "ytdjpngdgbijedaa", sum := "ce786f4ba183ca0679a10ec2f7dacaf7051d71ef68b8d4aaf436af177c7b3453", func := "loop.example/g00756/laws.FnExactSameFs", spec := "fnExactSameFs", unfollowed := true, recurses := true, apart := false, narrowed := true }
def FnExactSameFsUptoSaid : Prop := fnExactSameFsUptoRow.holds Try.pinned (OpenSpec.upto fnExactSameFsSpec)

end Rows
end Go.Proofs.Ytdjpngdgbijedaa
