/-
  DERIVED. GIVEN WITH THE SEED: THE CARDS: each row of YtpkmkpeabfmbiaaGreatDoorRows.lean that lists a variable, with what it lists TIED to the program's text (the seventh form; the later family's looks); each row that meets fmt, with fmt's text TOLD by the authors' own Lean function (tested against real Go, not proved from fmt's source: count such statements apart). THE CARD IS WHAT COUNTS. Prove the row's statement (the work); the ties are given (YtpkmkpeabfmbiaaGreatDoorTie.lean); close each card by the builder's one call (the guide's Derived/Test/ToyasCard.lean, 'card_holds'). Laid BY PROGRAM, IN A SANDBOX (cutbox-door.mjs). By AI agents, Wed Nov 11 2026. No macro, syntax, notation, axiom, sorry.
-/
import Derived.Test.YtpkmkpeabfmbiaaGreatDoorRows
import GoSem.ClaimSeven
namespace Go.Proofs.YtpkmkpeabfmbiaaGreatDoor
namespace Rows

/-- THE TIED CARD OF 'laws.FnExactDuLines'. -/
def fnExactDuLinesCard : Claim7 := { stood := { row := fnExactDuLinesRow, standIns := [], harness := (true, "0b89de68cee4aa2d95bb92972cb9090ef90ba460eda32b776cccc70dd51aac75"), looks := true }, kinds := [], alts := [], laidByText := true, laidKinds := [.handle], laidTests := true, laidLooks := .later }
def FnExactDuLinesCardSaid : Prop := Claim7.holds Tryz.pinned (.plain (OpenSpec.ofChange fnExactDuLinesSpec)) fnExactDuLinesCard

/-- THE TIED CARD OF 'laws.FnExactStatOf'. -/
def fnExactStatOfCard : Claim7 := { stood := { row := fnExactStatOfRow, standIns := [], harness := (true, "0b89de68cee4aa2d95bb92972cb9090ef90ba460eda32b776cccc70dd51aac75"), looks := true }, kinds := [], alts := [], laidByText := true, laidKinds := [.handle], laidTests := true, laidLooks := .later }
def FnExactStatOfCardSaid : Prop := Claim7.holds Tryz.pinned (.plain (OpenSpec.ofChange fnExactStatOfSpec)) fnExactStatOfCard

/-- THE TIED CARD OF 'laws.FnExactSetMode'. -/
def fnExactSetModeCard : Claim7 := { stood := { row := fnExactSetModeRow, standIns := [], harness := (true, "0b89de68cee4aa2d95bb92972cb9090ef90ba460eda32b776cccc70dd51aac75"), looks := true }, kinds := [], alts := [], laidByText := true, laidKinds := [.handle], laidTests := true, laidLooks := .later }
def FnExactSetModeCardSaid : Prop := Claim7.holds Tryz.pinned (.plain (OpenSpec.ofChange fnExactSetModeSpec)) fnExactSetModeCard

/-- THE TIED CARD OF 'laws.FnExactSetTime'. -/
def fnExactSetTimeCard : Claim7 := { stood := { row := fnExactSetTimeRow, standIns := [], harness := (true, "0b89de68cee4aa2d95bb92972cb9090ef90ba460eda32b776cccc70dd51aac75"), looks := true }, kinds := [], alts := [], laidByText := true, laidKinds := [.handle], laidTests := true, laidLooks := .later }
def FnExactSetTimeCardSaid : Prop := Claim7.holds Tryz.pinned (.plain (OpenSpec.ofChange fnExactSetTimeSpec)) fnExactSetTimeCard

/-- THE TIED CARD OF 'laws.FnExactSetOwner'. -/
def fnExactSetOwnerCard : Claim7 := { stood := { row := fnExactSetOwnerRow, standIns := [], harness := (true, "0b89de68cee4aa2d95bb92972cb9090ef90ba460eda32b776cccc70dd51aac75"), looks := true }, kinds := [], alts := [], laidByText := true, laidKinds := [.handle], laidTests := true, laidLooks := .later }
def FnExactSetOwnerCardSaid : Prop := Claim7.holds Tryz.pinned (.plain (OpenSpec.ofChange fnExactSetOwnerSpec)) fnExactSetOwnerCard

/-- THE TIED CARD OF 'laws.FnExactWriteFile'. -/
def fnExactWriteFileCard : Claim7 := { stood := { row := fnExactWriteFileRow, standIns := [], harness := (true, "0b89de68cee4aa2d95bb92972cb9090ef90ba460eda32b776cccc70dd51aac75"), looks := true }, kinds := [], alts := [], laidByText := true, laidKinds := [.handle], laidTests := true, laidLooks := .later }
def FnExactWriteFileCardSaid : Prop := Claim7.holds Tryz.pinned (.plain (OpenSpec.ofChange fnExactWriteFileSpec)) fnExactWriteFileCard

/-- THE SECOND FORM's CARD OF 'laws.FnExactDuLines'. -/
def fnExactDuLinesUptoCard : Claim7 := { stood := { row := fnExactDuLinesUptoRow, standIns := [], harness := (true, "0b89de68cee4aa2d95bb92972cb9090ef90ba460eda32b776cccc70dd51aac75"), looks := true }, kinds := [], alts := [], laidByText := true, laidKinds := [.handle], laidTests := true, laidLooks := .later }
def FnExactDuLinesUptoCardSaid : Prop := Claim7.holds Tryz.pinned (.plain (OpenSpec.upto fnExactDuLinesSpec)) fnExactDuLinesUptoCard

/-- THE SECOND FORM's CARD OF 'laws.FnExactStatOf'. -/
def fnExactStatOfUptoCard : Claim7 := { stood := { row := fnExactStatOfUptoRow, standIns := [], harness := (true, "0b89de68cee4aa2d95bb92972cb9090ef90ba460eda32b776cccc70dd51aac75"), looks := true }, kinds := [], alts := [], laidByText := true, laidKinds := [.handle], laidTests := true, laidLooks := .later }
def FnExactStatOfUptoCardSaid : Prop := Claim7.holds Tryz.pinned (.plain (OpenSpec.upto fnExactStatOfSpec)) fnExactStatOfUptoCard

/-- THE SECOND FORM's CARD OF 'laws.FnExactSetMode'. -/
def fnExactSetModeUptoCard : Claim7 := { stood := { row := fnExactSetModeUptoRow, standIns := [], harness := (true, "0b89de68cee4aa2d95bb92972cb9090ef90ba460eda32b776cccc70dd51aac75"), looks := true }, kinds := [], alts := [], laidByText := true, laidKinds := [.handle], laidTests := true, laidLooks := .later }
def FnExactSetModeUptoCardSaid : Prop := Claim7.holds Tryz.pinned (.plain (OpenSpec.upto fnExactSetModeSpec)) fnExactSetModeUptoCard

/-- THE SECOND FORM's CARD OF 'laws.FnExactSetTime'. -/
def fnExactSetTimeUptoCard : Claim7 := { stood := { row := fnExactSetTimeUptoRow, standIns := [], harness := (true, "0b89de68cee4aa2d95bb92972cb9090ef90ba460eda32b776cccc70dd51aac75"), looks := true }, kinds := [], alts := [], laidByText := true, laidKinds := [.handle], laidTests := true, laidLooks := .later }
def FnExactSetTimeUptoCardSaid : Prop := Claim7.holds Tryz.pinned (.plain (OpenSpec.upto fnExactSetTimeSpec)) fnExactSetTimeUptoCard

/-- THE SECOND FORM's CARD OF 'laws.FnExactSetOwner'. -/
def fnExactSetOwnerUptoCard : Claim7 := { stood := { row := fnExactSetOwnerUptoRow, standIns := [], harness := (true, "0b89de68cee4aa2d95bb92972cb9090ef90ba460eda32b776cccc70dd51aac75"), looks := true }, kinds := [], alts := [], laidByText := true, laidKinds := [.handle], laidTests := true, laidLooks := .later }
def FnExactSetOwnerUptoCardSaid : Prop := Claim7.holds Tryz.pinned (.plain (OpenSpec.upto fnExactSetOwnerSpec)) fnExactSetOwnerUptoCard

/-- THE SECOND FORM's CARD OF 'laws.FnExactWriteFile'. -/
def fnExactWriteFileUptoCard : Claim7 := { stood := { row := fnExactWriteFileUptoRow, standIns := [], harness := (true, "0b89de68cee4aa2d95bb92972cb9090ef90ba460eda32b776cccc70dd51aac75"), looks := true }, kinds := [], alts := [], laidByText := true, laidKinds := [.handle], laidTests := true, laidLooks := .later }
def FnExactWriteFileUptoCardSaid : Prop := Claim7.holds Tryz.pinned (.plain (OpenSpec.upto fnExactWriteFileSpec)) fnExactWriteFileUptoCard
end Rows
end Go.Proofs.YtpkmkpeabfmbiaaGreatDoor
