/-
  DERIVED. GIVEN WITH THE SEED: THE CARDS: each row of YtbmbbioanlcioaaGreatDoorRows.lean that lists a variable, with what it lists TIED to the program's text (the seventh form; the later family's looks); each row that meets fmt, with fmt's text TOLD by the authors' own Lean function (tested against real Go, not proved from fmt's source: count such statements apart). THE CARD IS WHAT COUNTS. Prove the row's statement (the work); the ties are given (YtbmbbioanlcioaaGreatDoorTie.lean); close each card by the builder's one call (the guide's Derived/Test/ToyasCard.lean, 'card_holds'). Laid BY PROGRAM, IN A SANDBOX (cutbox-door.mjs). By AI agents, Wed Nov 11 2026. No macro, syntax, notation, axiom, sorry.
-/
import Derived.Test.YtbmbbioanlcioaaGreatDoorRows
import GoSem.ClaimSeven
namespace Go.Proofs.YtbmbbioanlcioaaGreatDoor
namespace Rows

/-- THE TIED CARD OF 'laws.FnExactReadFile'. -/
def fnExactReadFileCard : Claim7 := { stood := { row := fnExactReadFileRow, standIns := [], harness := (true, "c399db47ae47a2fa91ea762f4f59930ba95bb7fd615f7448a95059c693d3a1b2"), looks := true }, kinds := [], alts := [], laidByText := true, laidKinds := [.handle], laidTests := true, laidLooks := .later }
def FnExactReadFileCardSaid : Prop := Claim7.holds Tryz.pinned (.plain (OpenSpec.ofChange fnExactReadFileSpec)) fnExactReadFileCard

/-- THE TIED CARD OF 'laws.FnExactWriteFile'. -/
def fnExactWriteFileCard : Claim7 := { stood := { row := fnExactWriteFileRow, standIns := [], harness := (true, "c399db47ae47a2fa91ea762f4f59930ba95bb7fd615f7448a95059c693d3a1b2"), looks := true }, kinds := [], alts := [], laidByText := true, laidKinds := [.handle], laidTests := true, laidLooks := .later }
def FnExactWriteFileCardSaid : Prop := Claim7.holds Tryz.pinned (.plain (OpenSpec.ofChange fnExactWriteFileSpec)) fnExactWriteFileCard

/-- THE TIED CARD OF 'laws.FnExactStatOf'. -/
def fnExactStatOfCard : Claim7 := { stood := { row := fnExactStatOfRow, standIns := [], harness := (true, "c399db47ae47a2fa91ea762f4f59930ba95bb7fd615f7448a95059c693d3a1b2"), looks := true }, kinds := [], alts := [], laidByText := true, laidKinds := [.handle], laidTests := true, laidLooks := .later }
def FnExactStatOfCardSaid : Prop := Claim7.holds Tryz.pinned (.plain (OpenSpec.ofChange fnExactStatOfSpec)) fnExactStatOfCard

/-- THE TIED CARD OF 'laws.FnExactSetMode'. -/
def fnExactSetModeCard : Claim7 := { stood := { row := fnExactSetModeRow, standIns := [], harness := (true, "c399db47ae47a2fa91ea762f4f59930ba95bb7fd615f7448a95059c693d3a1b2"), looks := true }, kinds := [], alts := [], laidByText := true, laidKinds := [.handle], laidTests := true, laidLooks := .later }
def FnExactSetModeCardSaid : Prop := Claim7.holds Tryz.pinned (.plain (OpenSpec.ofChange fnExactSetModeSpec)) fnExactSetModeCard

/-- THE TIED CARD OF 'laws.FnExactSetOwner'. -/
def fnExactSetOwnerCard : Claim7 := { stood := { row := fnExactSetOwnerRow, standIns := [], harness := (true, "c399db47ae47a2fa91ea762f4f59930ba95bb7fd615f7448a95059c693d3a1b2"), looks := true }, kinds := [], alts := [], laidByText := true, laidKinds := [.handle], laidTests := true, laidLooks := .later }
def FnExactSetOwnerCardSaid : Prop := Claim7.holds Tryz.pinned (.plain (OpenSpec.ofChange fnExactSetOwnerSpec)) fnExactSetOwnerCard

/-- THE TIED CARD OF 'laws.FnExactSetTime'. -/
def fnExactSetTimeCard : Claim7 := { stood := { row := fnExactSetTimeRow, standIns := [], harness := (true, "c399db47ae47a2fa91ea762f4f59930ba95bb7fd615f7448a95059c693d3a1b2"), looks := true }, kinds := [], alts := [], laidByText := true, laidKinds := [.handle], laidTests := true, laidLooks := .later }
def FnExactSetTimeCardSaid : Prop := Claim7.holds Tryz.pinned (.plain (OpenSpec.ofChange fnExactSetTimeSpec)) fnExactSetTimeCard

/-- THE SECOND FORM's CARD OF 'laws.FnExactReadFile'. -/
def fnExactReadFileUptoCard : Claim7 := { stood := { row := fnExactReadFileUptoRow, standIns := [], harness := (true, "c399db47ae47a2fa91ea762f4f59930ba95bb7fd615f7448a95059c693d3a1b2"), looks := true }, kinds := [], alts := [], laidByText := true, laidKinds := [.handle], laidTests := true, laidLooks := .later }
def FnExactReadFileUptoCardSaid : Prop := Claim7.holds Tryz.pinned (.plain (OpenSpec.upto fnExactReadFileSpec)) fnExactReadFileUptoCard

/-- THE SECOND FORM's CARD OF 'laws.FnExactWriteFile'. -/
def fnExactWriteFileUptoCard : Claim7 := { stood := { row := fnExactWriteFileUptoRow, standIns := [], harness := (true, "c399db47ae47a2fa91ea762f4f59930ba95bb7fd615f7448a95059c693d3a1b2"), looks := true }, kinds := [], alts := [], laidByText := true, laidKinds := [.handle], laidTests := true, laidLooks := .later }
def FnExactWriteFileUptoCardSaid : Prop := Claim7.holds Tryz.pinned (.plain (OpenSpec.upto fnExactWriteFileSpec)) fnExactWriteFileUptoCard

/-- THE SECOND FORM's CARD OF 'laws.FnExactStatOf'. -/
def fnExactStatOfUptoCard : Claim7 := { stood := { row := fnExactStatOfUptoRow, standIns := [], harness := (true, "c399db47ae47a2fa91ea762f4f59930ba95bb7fd615f7448a95059c693d3a1b2"), looks := true }, kinds := [], alts := [], laidByText := true, laidKinds := [.handle], laidTests := true, laidLooks := .later }
def FnExactStatOfUptoCardSaid : Prop := Claim7.holds Tryz.pinned (.plain (OpenSpec.upto fnExactStatOfSpec)) fnExactStatOfUptoCard

/-- THE SECOND FORM's CARD OF 'laws.FnExactSetMode'. -/
def fnExactSetModeUptoCard : Claim7 := { stood := { row := fnExactSetModeUptoRow, standIns := [], harness := (true, "c399db47ae47a2fa91ea762f4f59930ba95bb7fd615f7448a95059c693d3a1b2"), looks := true }, kinds := [], alts := [], laidByText := true, laidKinds := [.handle], laidTests := true, laidLooks := .later }
def FnExactSetModeUptoCardSaid : Prop := Claim7.holds Tryz.pinned (.plain (OpenSpec.upto fnExactSetModeSpec)) fnExactSetModeUptoCard

/-- THE SECOND FORM's CARD OF 'laws.FnExactSetOwner'. -/
def fnExactSetOwnerUptoCard : Claim7 := { stood := { row := fnExactSetOwnerUptoRow, standIns := [], harness := (true, "c399db47ae47a2fa91ea762f4f59930ba95bb7fd615f7448a95059c693d3a1b2"), looks := true }, kinds := [], alts := [], laidByText := true, laidKinds := [.handle], laidTests := true, laidLooks := .later }
def FnExactSetOwnerUptoCardSaid : Prop := Claim7.holds Tryz.pinned (.plain (OpenSpec.upto fnExactSetOwnerSpec)) fnExactSetOwnerUptoCard

/-- THE SECOND FORM's CARD OF 'laws.FnExactSetTime'. -/
def fnExactSetTimeUptoCard : Claim7 := { stood := { row := fnExactSetTimeUptoRow, standIns := [], harness := (true, "c399db47ae47a2fa91ea762f4f59930ba95bb7fd615f7448a95059c693d3a1b2"), looks := true }, kinds := [], alts := [], laidByText := true, laidKinds := [.handle], laidTests := true, laidLooks := .later }
def FnExactSetTimeUptoCardSaid : Prop := Claim7.holds Tryz.pinned (.plain (OpenSpec.upto fnExactSetTimeSpec)) fnExactSetTimeUptoCard
end Rows
end Go.Proofs.YtbmbbioanlcioaaGreatDoor
