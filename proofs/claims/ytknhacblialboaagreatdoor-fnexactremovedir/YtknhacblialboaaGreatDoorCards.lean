/-
  DERIVED. GIVEN WITH THE SEED: THE CARDS: each row of YtknhacblialboaaGreatDoorRows.lean that lists a variable, with what it lists TIED to the program's text (the seventh form; the later family's looks); each row that meets fmt, with fmt's text TOLD by the authors' own Lean function (tested against real Go, not proved from fmt's source: count such statements apart). THE CARD IS WHAT COUNTS. Prove the row's statement (the work); the ties are given (YtknhacblialboaaGreatDoorTie.lean); close each card by the builder's one call (the guide's Derived/Test/ToyasCard.lean, 'card_holds'). Laid BY PROGRAM, IN A SANDBOX (cutbox-door.mjs). By AI agents, Wed Nov 11 2026. No macro, syntax, notation, axiom, sorry.
-/
import Derived.Test.YtknhacblialboaaGreatDoorRows
import GoSem.ClaimSeven
namespace Go.Proofs.YtknhacblialboaaGreatDoor
namespace Rows

/-- THE TIED CARD OF 'laws.FnExactMakeDir'. -/
def fnExactMakeDirCard : Claim7 := { stood := { row := fnExactMakeDirRow, standIns := [], harness := (true, "a936f2f8130d515ea9a4c2b48a2aa3ddbb42c0346b0e1ca4d7ef29da3eae1121"), looks := true }, kinds := [], alts := [], laidByText := true, laidKinds := [.handle], laidTests := true, laidLooks := .later }
def FnExactMakeDirCardSaid : Prop := Claim7.holds Tryz.pinned (.plain (OpenSpec.ofChange fnExactMakeDirSpec)) fnExactMakeDirCard

/-- THE TIED CARD OF 'laws.FnExactMakeFile'. -/
def fnExactMakeFileCard : Claim7 := { stood := { row := fnExactMakeFileRow, standIns := [], harness := (true, "a936f2f8130d515ea9a4c2b48a2aa3ddbb42c0346b0e1ca4d7ef29da3eae1121"), looks := true }, kinds := [], alts := [], laidByText := true, laidKinds := [.handle], laidTests := true, laidLooks := .later }
def FnExactMakeFileCardSaid : Prop := Claim7.holds Tryz.pinned (.plain (OpenSpec.ofChange fnExactMakeFileSpec)) fnExactMakeFileCard

/-- THE TIED CARD OF 'laws.FnExactMakeLink'. -/
def fnExactMakeLinkCard : Claim7 := { stood := { row := fnExactMakeLinkRow, standIns := [], harness := (true, "a936f2f8130d515ea9a4c2b48a2aa3ddbb42c0346b0e1ca4d7ef29da3eae1121"), looks := true }, kinds := [], alts := [], laidByText := true, laidKinds := [.handle], laidTests := true, laidLooks := .later }
def FnExactMakeLinkCardSaid : Prop := Claim7.holds Tryz.pinned (.plain (OpenSpec.ofChange fnExactMakeLinkSpec)) fnExactMakeLinkCard

/-- THE TIED CARD OF 'laws.FnExactAddName'. -/
def fnExactAddNameCard : Claim7 := { stood := { row := fnExactAddNameRow, standIns := [], harness := (true, "a936f2f8130d515ea9a4c2b48a2aa3ddbb42c0346b0e1ca4d7ef29da3eae1121"), looks := true }, kinds := [], alts := [], laidByText := true, laidKinds := [.handle], laidTests := true, laidLooks := .later }
def FnExactAddNameCardSaid : Prop := Claim7.holds Tryz.pinned (.plain (OpenSpec.ofChange fnExactAddNameSpec)) fnExactAddNameCard

/-- THE TIED CARD OF 'laws.FnExactUnlink'. -/
def fnExactUnlinkCard : Claim7 := { stood := { row := fnExactUnlinkRow, standIns := [], harness := (true, "a936f2f8130d515ea9a4c2b48a2aa3ddbb42c0346b0e1ca4d7ef29da3eae1121"), looks := true }, kinds := [], alts := [], laidByText := true, laidKinds := [.handle], laidTests := true, laidLooks := .later }
def FnExactUnlinkCardSaid : Prop := Claim7.holds Tryz.pinned (.plain (OpenSpec.ofChange fnExactUnlinkSpec)) fnExactUnlinkCard

/-- THE TIED CARD OF 'laws.FnExactRemoveDir'. -/
def fnExactRemoveDirCard : Claim7 := { stood := { row := fnExactRemoveDirRow, standIns := [], harness := (true, "a936f2f8130d515ea9a4c2b48a2aa3ddbb42c0346b0e1ca4d7ef29da3eae1121"), looks := true }, kinds := [], alts := [], laidByText := true, laidKinds := [.handle], laidTests := true, laidLooks := .later }
def FnExactRemoveDirCardSaid : Prop := Claim7.holds Tryz.pinned (.plain (OpenSpec.ofChange fnExactRemoveDirSpec)) fnExactRemoveDirCard

/-- THE TIED CARD OF 'laws.FnExactRename'. -/
def fnExactRenameCard : Claim7 := { stood := { row := fnExactRenameRow, standIns := [], harness := (true, "a936f2f8130d515ea9a4c2b48a2aa3ddbb42c0346b0e1ca4d7ef29da3eae1121"), looks := true }, kinds := [], alts := [], laidByText := true, laidKinds := [.handle], laidTests := true, laidLooks := .later }
def FnExactRenameCardSaid : Prop := Claim7.holds Tryz.pinned (.plain (OpenSpec.ofChange fnExactRenameSpec)) fnExactRenameCard

/-- THE TIED CARD OF 'laws.FnExactCopyCode'. -/
def fnExactCopyCodeCard : Claim7 := { stood := { row := fnExactCopyCodeRow, standIns := [], harness := (true, "a936f2f8130d515ea9a4c2b48a2aa3ddbb42c0346b0e1ca4d7ef29da3eae1121"), looks := true }, kinds := [], alts := [], laidByText := true, laidKinds := [.handle], laidTests := true, laidLooks := .later }
def FnExactCopyCodeCardSaid : Prop := Claim7.holds Tryz.pinned (.plain (OpenSpec.ofChange fnExactCopyCodeSpec)) fnExactCopyCodeCard

/-- THE SECOND FORM's CARD OF 'laws.FnExactMakeDir'. -/
def fnExactMakeDirUptoCard : Claim7 := { stood := { row := fnExactMakeDirUptoRow, standIns := [], harness := (true, "a936f2f8130d515ea9a4c2b48a2aa3ddbb42c0346b0e1ca4d7ef29da3eae1121"), looks := true }, kinds := [], alts := [], laidByText := true, laidKinds := [.handle], laidTests := true, laidLooks := .later }
def FnExactMakeDirUptoCardSaid : Prop := Claim7.holds Tryz.pinned (.plain (OpenSpec.upto fnExactMakeDirSpec)) fnExactMakeDirUptoCard

/-- THE SECOND FORM's CARD OF 'laws.FnExactMakeFile'. -/
def fnExactMakeFileUptoCard : Claim7 := { stood := { row := fnExactMakeFileUptoRow, standIns := [], harness := (true, "a936f2f8130d515ea9a4c2b48a2aa3ddbb42c0346b0e1ca4d7ef29da3eae1121"), looks := true }, kinds := [], alts := [], laidByText := true, laidKinds := [.handle], laidTests := true, laidLooks := .later }
def FnExactMakeFileUptoCardSaid : Prop := Claim7.holds Tryz.pinned (.plain (OpenSpec.upto fnExactMakeFileSpec)) fnExactMakeFileUptoCard

/-- THE SECOND FORM's CARD OF 'laws.FnExactMakeLink'. -/
def fnExactMakeLinkUptoCard : Claim7 := { stood := { row := fnExactMakeLinkUptoRow, standIns := [], harness := (true, "a936f2f8130d515ea9a4c2b48a2aa3ddbb42c0346b0e1ca4d7ef29da3eae1121"), looks := true }, kinds := [], alts := [], laidByText := true, laidKinds := [.handle], laidTests := true, laidLooks := .later }
def FnExactMakeLinkUptoCardSaid : Prop := Claim7.holds Tryz.pinned (.plain (OpenSpec.upto fnExactMakeLinkSpec)) fnExactMakeLinkUptoCard

/-- THE SECOND FORM's CARD OF 'laws.FnExactAddName'. -/
def fnExactAddNameUptoCard : Claim7 := { stood := { row := fnExactAddNameUptoRow, standIns := [], harness := (true, "a936f2f8130d515ea9a4c2b48a2aa3ddbb42c0346b0e1ca4d7ef29da3eae1121"), looks := true }, kinds := [], alts := [], laidByText := true, laidKinds := [.handle], laidTests := true, laidLooks := .later }
def FnExactAddNameUptoCardSaid : Prop := Claim7.holds Tryz.pinned (.plain (OpenSpec.upto fnExactAddNameSpec)) fnExactAddNameUptoCard

/-- THE SECOND FORM's CARD OF 'laws.FnExactUnlink'. -/
def fnExactUnlinkUptoCard : Claim7 := { stood := { row := fnExactUnlinkUptoRow, standIns := [], harness := (true, "a936f2f8130d515ea9a4c2b48a2aa3ddbb42c0346b0e1ca4d7ef29da3eae1121"), looks := true }, kinds := [], alts := [], laidByText := true, laidKinds := [.handle], laidTests := true, laidLooks := .later }
def FnExactUnlinkUptoCardSaid : Prop := Claim7.holds Tryz.pinned (.plain (OpenSpec.upto fnExactUnlinkSpec)) fnExactUnlinkUptoCard

/-- THE SECOND FORM's CARD OF 'laws.FnExactRemoveDir'. -/
def fnExactRemoveDirUptoCard : Claim7 := { stood := { row := fnExactRemoveDirUptoRow, standIns := [], harness := (true, "a936f2f8130d515ea9a4c2b48a2aa3ddbb42c0346b0e1ca4d7ef29da3eae1121"), looks := true }, kinds := [], alts := [], laidByText := true, laidKinds := [.handle], laidTests := true, laidLooks := .later }
def FnExactRemoveDirUptoCardSaid : Prop := Claim7.holds Tryz.pinned (.plain (OpenSpec.upto fnExactRemoveDirSpec)) fnExactRemoveDirUptoCard

/-- THE SECOND FORM's CARD OF 'laws.FnExactRename'. -/
def fnExactRenameUptoCard : Claim7 := { stood := { row := fnExactRenameUptoRow, standIns := [], harness := (true, "a936f2f8130d515ea9a4c2b48a2aa3ddbb42c0346b0e1ca4d7ef29da3eae1121"), looks := true }, kinds := [], alts := [], laidByText := true, laidKinds := [.handle], laidTests := true, laidLooks := .later }
def FnExactRenameUptoCardSaid : Prop := Claim7.holds Tryz.pinned (.plain (OpenSpec.upto fnExactRenameSpec)) fnExactRenameUptoCard

/-- THE SECOND FORM's CARD OF 'laws.FnExactCopyCode'. -/
def fnExactCopyCodeUptoCard : Claim7 := { stood := { row := fnExactCopyCodeUptoRow, standIns := [], harness := (true, "a936f2f8130d515ea9a4c2b48a2aa3ddbb42c0346b0e1ca4d7ef29da3eae1121"), looks := true }, kinds := [], alts := [], laidByText := true, laidKinds := [.handle], laidTests := true, laidLooks := .later }
def FnExactCopyCodeUptoCardSaid : Prop := Claim7.holds Tryz.pinned (.plain (OpenSpec.upto fnExactCopyCodeSpec)) fnExactCopyCodeUptoCard
end Rows
end Go.Proofs.YtknhacblialboaaGreatDoor
