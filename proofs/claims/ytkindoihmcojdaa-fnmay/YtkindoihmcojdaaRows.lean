/-
  No cell of these rows narrows 'for every input' (looked for: loops, veiled, ifaces, maps, wideKeys, modest, calm, conditions, laid).
  DERIVED. THE GIVEN ROWS OF THIS SEAT. 7 by the template 'for every input the law returns true; each argument reads behind the call as it read before'; 0 by the template 'total and deterministic' (their statements: YtkindoihmcojdaaTotals.lean).
  GIVEN WITH THE SEED: the statements are not yours to turn. If you find one false, say at which input.
  Laid BY PROGRAM, IN A SANDBOX (cutbox-rows.mjs): the forced cells as the released guide's own fill.sh prints them over the translation 4e275481971a39d3… (all of the seat's roots in one cut). By AI agents, Wed Nov 11 2026. No macro, syntax, notation, axiom, sorry.
-/
import Derived.Test.YtkindoihmcojdaaChecked
import GoSem.Claim
import GoSem.ClaimJoined
import GoSem.ClaimMapViews
import Derived.JoinedTies
import Derived.KernelRfl
namespace Go.Proofs.Ytkindoihmcojdaa
/- THE CELL 'sum', in the pinned program and in every row, IS THE sha256 OF THE DUMP (.gsa) THAT YtkindoihmcojdaaProg.lean LOADS. Nothing in Lean hashes anything: it is a label: what it is worth is what the hold of that sum in a sandbox is worth. -/
noncomputable def Try.pinned : Pinned := { name := "ytkindoihmcojdaa", sum := "4e275481971a39d3c4e73d0b7021d87108f44b0707946b6715d6f90fe2547cd7", checked := Try.checked }
namespace Rows
def none {H : Type} : Left H := { results := [], args := [] }

/-- 'laws.FnMay': WHATEVER THE INPUT: true; the input reads as it did. -/
def fnMaySpec : ChangeSpec := { name := "fnMay", fn := fun _ => fun
  | [d1, d2] => { results := [.lit (.bool true)], args := [d1, d2] }
  | _ => none }
def fnMayRow : OpenClaim := { program := "ytkindoihmcojdaa", sum := "4e275481971a39d3c4e73d0b7021d87108f44b0707946b6715d6f90fe2547cd7", func := "loop.example/g00756/laws.FnMay", spec := "fnMay", apart := false }
def FnMaySaid : Prop := fnMayRow.holds Try.pinned (OpenSpec.ofChange fnMaySpec)

/-- ITS FALSE NEIGHBOUR: 'it returns false'. Refute it at one input. -/
def fnMayWrong : ChangeSpec := { name := "fnMay", fn := fun _ => fun
  | [d1, d2] => { results := [.lit (.bool false)], args := [d1, d2] }
  | _ => none }
def FnMayWrongFalsely : Prop := fnMayRow.holds Try.pinned (OpenSpec.ofChange fnMayWrong)

/-- 'laws.FnExactGoodCred': WHATEVER THE INPUT: true; the input reads as it did. -/
def fnExactGoodCredSpec : ChangeSpec := { name := "fnExactGoodCred", fn := fun _ => fun
  | [d] => { results := [.lit (.bool true)], args := [d] }
  | _ => none }
def fnExactGoodCredRow : OpenClaim := { program := "ytkindoihmcojdaa", sum := "4e275481971a39d3c4e73d0b7021d87108f44b0707946b6715d6f90fe2547cd7", func := "loop.example/g00756/laws.FnExactGoodCred", spec := "fnExactGoodCred", apart := false }
def FnExactGoodCredSaid : Prop := fnExactGoodCredRow.holds Try.pinned (OpenSpec.ofChange fnExactGoodCredSpec)

/-- ITS FALSE NEIGHBOUR: 'it returns false'. Refute it at one input. -/
def fnExactGoodCredWrong : ChangeSpec := { name := "fnExactGoodCred", fn := fun _ => fun
  | [d] => { results := [.lit (.bool false)], args := [d] }
  | _ => none }
def FnExactGoodCredWrongFalsely : Prop := fnExactGoodCredRow.holds Try.pinned (OpenSpec.ofChange fnExactGoodCredWrong)

/-- 'laws.FnExactMay': WHATEVER THE INPUT: true; the input reads as it did. -/
def fnExactMaySpec : ChangeSpec := { name := "fnExactMay", fn := fun _ => fun
  | [d1, d2, d3, d4, d5] => { results := [.lit (.bool true)], args := [d1, d2, d3, d4, d5] }
  | _ => none }
def fnExactMayRow : OpenClaim := { program := "ytkindoihmcojdaa", sum := "4e275481971a39d3c4e73d0b7021d87108f44b0707946b6715d6f90fe2547cd7", func := "loop.example/g00756/laws.FnExactMay", spec := "fnExactMay", apart := false }
def FnExactMaySaid : Prop := fnExactMayRow.holds Try.pinned (OpenSpec.ofChange fnExactMaySpec)

/-- ITS FALSE NEIGHBOUR: 'it returns false'. Refute it at one input. -/
def fnExactMayWrong : ChangeSpec := { name := "fnExactMay", fn := fun _ => fun
  | [d1, d2, d3, d4, d5] => { results := [.lit (.bool false)], args := [d1, d2, d3, d4, d5] }
  | _ => none }
def FnExactMayWrongFalsely : Prop := fnExactMayRow.holds Try.pinned (OpenSpec.ofChange fnExactMayWrong)

/-- 'laws.FnExactOctalText': WHATEVER THE INPUT: true; the input reads as it did. -/
def fnExactOctalTextSpec : ChangeSpec := { name := "fnExactOctalText", fn := fun _ => fun
  | [d] => { results := [.lit (.bool true)], args := [d] }
  | _ => none }
def fnExactOctalTextRow : OpenClaim := { program := "ytkindoihmcojdaa", sum := "4e275481971a39d3c4e73d0b7021d87108f44b0707946b6715d6f90fe2547cd7", func := "loop.example/g00756/laws.FnExactOctalText", spec := "fnExactOctalText", recurses := true, apart := false }
def FnExactOctalTextSaid : Prop := fnExactOctalTextRow.holds Try.pinned (OpenSpec.ofChange fnExactOctalTextSpec)

/-- ITS FALSE NEIGHBOUR: 'it returns false'. Refute it at one input. -/
def fnExactOctalTextWrong : ChangeSpec := { name := "fnExactOctalText", fn := fun _ => fun
  | [d] => { results := [.lit (.bool false)], args := [d] }
  | _ => none }
def FnExactOctalTextWrongFalsely : Prop := fnExactOctalTextRow.holds Try.pinned (OpenSpec.ofChange fnExactOctalTextWrong)

/-- 'laws.FnExactReadOctal': WHATEVER THE INPUT: true; the input reads as it did. -/
def fnExactReadOctalSpec : ChangeSpec := { name := "fnExactReadOctal", fn := fun _ => fun
  | [d] => { results := [.lit (.bool true)], args := [d] }
  | _ => none }
def fnExactReadOctalRow : OpenClaim := { program := "ytkindoihmcojdaa", sum := "4e275481971a39d3c4e73d0b7021d87108f44b0707946b6715d6f90fe2547cd7", func := "loop.example/g00756/laws.FnExactReadOctal", spec := "fnExactReadOctal", recurses := true, apart := false }
def FnExactReadOctalSaid : Prop := fnExactReadOctalRow.holds Try.pinned (OpenSpec.ofChange fnExactReadOctalSpec)

/-- ITS FALSE NEIGHBOUR: 'it returns false'. Refute it at one input. -/
def fnExactReadOctalWrong : ChangeSpec := { name := "fnExactReadOctal", fn := fun _ => fun
  | [d] => { results := [.lit (.bool false)], args := [d] }
  | _ => none }
def FnExactReadOctalWrongFalsely : Prop := fnExactReadOctalRow.holds Try.pinned (OpenSpec.ofChange fnExactReadOctalWrong)

/-- 'laws.FnExactWithMask': WHATEVER THE INPUT: true; the input reads as it did. -/
def fnExactWithMaskSpec : ChangeSpec := { name := "fnExactWithMask", fn := fun _ => fun
  | [d1, d2] => { results := [.lit (.bool true)], args := [d1, d2] }
  | _ => none }
def fnExactWithMaskRow : OpenClaim := { program := "ytkindoihmcojdaa", sum := "4e275481971a39d3c4e73d0b7021d87108f44b0707946b6715d6f90fe2547cd7", func := "loop.example/g00756/laws.FnExactWithMask", spec := "fnExactWithMask", apart := false }
def FnExactWithMaskSaid : Prop := fnExactWithMaskRow.holds Try.pinned (OpenSpec.ofChange fnExactWithMaskSpec)

/-- ITS FALSE NEIGHBOUR: 'it returns false'. Refute it at one input. -/
def fnExactWithMaskWrong : ChangeSpec := { name := "fnExactWithMask", fn := fun _ => fun
  | [d1, d2] => { results := [.lit (.bool false)], args := [d1, d2] }
  | _ => none }
def FnExactWithMaskWrongFalsely : Prop := fnExactWithMaskRow.holds Try.pinned (OpenSpec.ofChange fnExactWithMaskWrong)

/-- 'laws.FnExactChangeMode': WHATEVER THE INPUT: true; the input reads as it did. -/
def fnExactChangeModeSpec : ChangeSpec := { name := "fnExactChangeMode", fn := fun _ => fun
  | [d1, d2] => { results := [.lit (.bool true)], args := [d1, d2] }
  | _ => none }
def fnExactChangeModeRow : OpenClaim := { program := "ytkindoihmcojdaa", sum := "4e275481971a39d3c4e73d0b7021d87108f44b0707946b6715d6f90fe2547cd7", func := "loop.example/g00756/laws.FnExactChangeMode", spec := "fnExactChangeMode", inPlace := ["internal/bytealg.IndexByteString", "internal/bytealg.IndexString"], unfollowed := true, recurses := true, named := ["internal/bytealg.MaxLen"], apart := false }
def FnExactChangeModeSaid : Prop := fnExactChangeModeRow.holds Try.pinned (OpenSpec.ofChange fnExactChangeModeSpec)

/-- ITS FALSE NEIGHBOUR: 'it returns false'. Refute it at one input. -/
def fnExactChangeModeWrong : ChangeSpec := { name := "fnExactChangeMode", fn := fun _ => fun
  | [d1, d2] => { results := [.lit (.bool false)], args := [d1, d2] }
  | _ => none }
def FnExactChangeModeWrongFalsely : Prop := fnExactChangeModeRow.holds Try.pinned (OpenSpec.ofChange fnExactChangeModeWrong)

/- THE SECOND FORM. 'bulk': how many values and letters a reading holds, each counted each time it is reached (what is shared counts as often as it is met; a slice's spare places count too). A statement '..UptoSaid' is the law's where the arguments, and the package variables that the reading takes, are together of bulk at most 1048576: NARROWER than '..Said'. Prove '..Said' where nothing that the law and all that it calls make is longer than what came in: it says more and counts as full. Else prove '..UptoSaid'. A law counts once. -/
mutual
def uptoBulk {H : Type} : DataW H → Nat
  | .lit (.string bytes) => bytes.length + 1
  | .lit _ => 1
  | .nil => 1
  | .ptr d => uptoBulk d + 1
  | .slice elems spare => uptoBulkAll elems + uptoBulkAll spare + 1
  | .agg parts => uptoBulkAll parts + 1
  | .iface _ d => uptoBulk d + 1
  | .map entries => uptoBulkEntries entries + 1
  | .held _ => 1
def uptoBulkAll {H : Type} : List (DataW H) → Nat
  | [] => 0
  | d :: r => uptoBulk d + uptoBulkAll r
def uptoBulkEntries {H : Type} : List (Lit × DataW H) → Nat
  | [] => 0
  | x :: r => uptoBulkEntry x + uptoBulkEntries r
def uptoBulkEntry {H : Type} : Lit × DataW H → Nat
  | (.string bytes, d) => bytes.length + uptoBulk d + 1
  | (_, d) => uptoBulk d + 1
 end
def uptoSmall : (H : Type) → List (DataW H) → Bool := fun _ ds => decide (uptoBulkAll ds ≤ 1048576)
def OpenSpec.upto (s : _root_.Go.ChangeSpec) : _root_.Go.OpenSpec := { _root_.Go.OpenSpec.ofChange s with cond := some uptoSmall }

/-- 'laws.FnMay', WHERE WHAT IT READS IS OF BULK AT MOST 1048576: true; the input reads as it did. -/
def fnMayUptoRow : OpenClaim := { program := "ytkindoihmcojdaa", sum := "4e275481971a39d3c4e73d0b7021d87108f44b0707946b6715d6f90fe2547cd7", func := "loop.example/g00756/laws.FnMay", spec := "fnMay", apart := false, narrowed := true }
def FnMayUptoSaid : Prop := fnMayUptoRow.holds Try.pinned (OpenSpec.upto fnMaySpec)

/-- 'laws.FnExactGoodCred', WHERE WHAT IT READS IS OF BULK AT MOST 1048576: true; the input reads as it did. -/
def fnExactGoodCredUptoRow : OpenClaim := { program := "ytkindoihmcojdaa", sum := "4e275481971a39d3c4e73d0b7021d87108f44b0707946b6715d6f90fe2547cd7", func := "loop.example/g00756/laws.FnExactGoodCred", spec := "fnExactGoodCred", apart := false, narrowed := true }
def FnExactGoodCredUptoSaid : Prop := fnExactGoodCredUptoRow.holds Try.pinned (OpenSpec.upto fnExactGoodCredSpec)

/-- 'laws.FnExactMay', WHERE WHAT IT READS IS OF BULK AT MOST 1048576: true; the input reads as it did. -/
def fnExactMayUptoRow : OpenClaim := { program := "ytkindoihmcojdaa", sum := "4e275481971a39d3c4e73d0b7021d87108f44b0707946b6715d6f90fe2547cd7", func := "loop.example/g00756/laws.FnExactMay", spec := "fnExactMay", apart := false, narrowed := true }
def FnExactMayUptoSaid : Prop := fnExactMayUptoRow.holds Try.pinned (OpenSpec.upto fnExactMaySpec)

/-- 'laws.FnExactOctalText', WHERE WHAT IT READS IS OF BULK AT MOST 1048576: true; the input reads as it did. -/
def fnExactOctalTextUptoRow : OpenClaim := { program := "ytkindoihmcojdaa", sum := "4e275481971a39d3c4e73d0b7021d87108f44b0707946b6715d6f90fe2547cd7", func := "loop.example/g00756/laws.FnExactOctalText", spec := "fnExactOctalText", recurses := true, apart := false, narrowed := true }
def FnExactOctalTextUptoSaid : Prop := fnExactOctalTextUptoRow.holds Try.pinned (OpenSpec.upto fnExactOctalTextSpec)

/-- 'laws.FnExactReadOctal', WHERE WHAT IT READS IS OF BULK AT MOST 1048576: true; the input reads as it did. -/
def fnExactReadOctalUptoRow : OpenClaim := { program := "ytkindoihmcojdaa", sum := "4e275481971a39d3c4e73d0b7021d87108f44b0707946b6715d6f90fe2547cd7", func := "loop.example/g00756/laws.FnExactReadOctal", spec := "fnExactReadOctal", recurses := true, apart := false, narrowed := true }
def FnExactReadOctalUptoSaid : Prop := fnExactReadOctalUptoRow.holds Try.pinned (OpenSpec.upto fnExactReadOctalSpec)

/-- 'laws.FnExactWithMask', WHERE WHAT IT READS IS OF BULK AT MOST 1048576: true; the input reads as it did. -/
def fnExactWithMaskUptoRow : OpenClaim := { program := "ytkindoihmcojdaa", sum := "4e275481971a39d3c4e73d0b7021d87108f44b0707946b6715d6f90fe2547cd7", func := "loop.example/g00756/laws.FnExactWithMask", spec := "fnExactWithMask", apart := false, narrowed := true }
def FnExactWithMaskUptoSaid : Prop := fnExactWithMaskUptoRow.holds Try.pinned (OpenSpec.upto fnExactWithMaskSpec)

/-- 'laws.FnExactChangeMode', WHERE WHAT IT READS IS OF BULK AT MOST 1048576: true; the input reads as it did. -/
def fnExactChangeModeUptoRow : OpenClaim := { program := "ytkindoihmcojdaa", sum := "4e275481971a39d3c4e73d0b7021d87108f44b0707946b6715d6f90fe2547cd7", func := "loop.example/g00756/laws.FnExactChangeMode", spec := "fnExactChangeMode", inPlace := ["internal/bytealg.IndexByteString", "internal/bytealg.IndexString"], unfollowed := true, recurses := true, named := ["internal/bytealg.MaxLen"], apart := false, narrowed := true }
def FnExactChangeModeUptoSaid : Prop := fnExactChangeModeUptoRow.holds Try.pinned (OpenSpec.upto fnExactChangeModeSpec)

end Rows
end Go.Proofs.Ytkindoihmcojdaa
