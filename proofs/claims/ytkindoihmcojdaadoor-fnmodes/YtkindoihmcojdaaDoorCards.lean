/-
  DERIVED. GIVEN WITH THE SEED: THE CARDS: each row of YtkindoihmcojdaaDoorRows.lean that lists a variable, with what it lists TIED to the program's text (the seventh form; the later family's looks); each row that meets fmt, with fmt's text TOLD by the authors' own Lean function (tested against real Go, not proved from fmt's source: count such statements apart). THE CARD IS WHAT COUNTS. Prove the row's statement (the work); the ties are given (YtkindoihmcojdaaDoorTie.lean); close each card by the builder's one call (the guide's Derived/Test/ToyasCard.lean, 'card_holds'). Laid BY PROGRAM, IN A SANDBOX (cutbox-door.mjs). By AI agents, Wed Nov 11 2026. No macro, syntax, notation, axiom, sorry.
-/
import Derived.Test.YtkindoihmcojdaaDoorRows
import GoSem.ClaimSeven
namespace Go.Proofs.YtkindoihmcojdaaDoor
namespace Rows

/-- THE TIED CARD OF 'laws.FnModes'. -/
def fnModesCard : Claim7 := { stood := { row := fnModesRow, standIns := [], harness := (true, "604762aacb64db6e4b22b85ebab8d9c75bcb7058e63148fe86efb4354dbd5567"), looks := false }, kinds := [], alts := [], laidByText := true, laidKinds := [.data], laidTests := true, laidLooks := .later }
def FnModesCardSaid : Prop := Claim7.holds Tryd.pinned (.plain (OpenSpec.ofChange fnModesSpec)) fnModesCard

/-- THE TIED CARD OF 'laws.FnExactModeText'. -/
def fnExactModeTextCard : Claim7 := { stood := { row := fnExactModeTextRow, standIns := [], harness := (true, "604762aacb64db6e4b22b85ebab8d9c75bcb7058e63148fe86efb4354dbd5567"), looks := false }, kinds := [], alts := [], laidByText := true, laidKinds := [.data], laidTests := true, laidLooks := .later }
def FnExactModeTextCardSaid : Prop := Claim7.holds Tryd.pinned (.plain (OpenSpec.ofChange fnExactModeTextSpec)) fnExactModeTextCard

/-- THE TIED CARD OF 'laws.FnExactReadMode'. -/
def fnExactReadModeCard : Claim7 := { stood := { row := fnExactReadModeRow, standIns := [], harness := (true, "604762aacb64db6e4b22b85ebab8d9c75bcb7058e63148fe86efb4354dbd5567"), looks := false }, kinds := [], alts := [], laidByText := true, laidKinds := [.data], laidTests := true, laidLooks := .later }
def FnExactReadModeCardSaid : Prop := Claim7.holds Tryd.pinned (.plain (OpenSpec.ofChange fnExactReadModeSpec)) fnExactReadModeCard

/-- THE SECOND FORM's CARD OF 'laws.FnModes'. -/
def fnModesUptoCard : Claim7 := { stood := { row := fnModesUptoRow, standIns := [], harness := (true, "604762aacb64db6e4b22b85ebab8d9c75bcb7058e63148fe86efb4354dbd5567"), looks := false }, kinds := [], alts := [], laidByText := true, laidKinds := [.data], laidTests := true, laidLooks := .later }
def FnModesUptoCardSaid : Prop := Claim7.holds Tryd.pinned (.plain (OpenSpec.upto fnModesSpec)) fnModesUptoCard

/-- THE SECOND FORM's CARD OF 'laws.FnExactModeText'. -/
def fnExactModeTextUptoCard : Claim7 := { stood := { row := fnExactModeTextUptoRow, standIns := [], harness := (true, "604762aacb64db6e4b22b85ebab8d9c75bcb7058e63148fe86efb4354dbd5567"), looks := false }, kinds := [], alts := [], laidByText := true, laidKinds := [.data], laidTests := true, laidLooks := .later }
def FnExactModeTextUptoCardSaid : Prop := Claim7.holds Tryd.pinned (.plain (OpenSpec.upto fnExactModeTextSpec)) fnExactModeTextUptoCard

/-- THE SECOND FORM's CARD OF 'laws.FnExactReadMode'. -/
def fnExactReadModeUptoCard : Claim7 := { stood := { row := fnExactReadModeUptoRow, standIns := [], harness := (true, "604762aacb64db6e4b22b85ebab8d9c75bcb7058e63148fe86efb4354dbd5567"), looks := false }, kinds := [], alts := [], laidByText := true, laidKinds := [.data], laidTests := true, laidLooks := .later }
def FnExactReadModeUptoCardSaid : Prop := Claim7.holds Tryd.pinned (.plain (OpenSpec.upto fnExactReadModeSpec)) fnExactReadModeUptoCard
end Rows
end Go.Proofs.YtkindoihmcojdaaDoor
