/-
  DERIVED. GIVEN WITH THE SEED: THE CARDS: each row of YtgmkfhhlnhgkhaaGreatDoorRows.lean that lists a variable, with what it lists TIED to the program's text (the seventh form; the later family's looks); each row that meets fmt, with fmt's text TOLD by the authors' own Lean function (tested against real Go, not proved from fmt's source: count such statements apart). THE CARD IS WHAT COUNTS. Prove the row's statement (the work); the ties are given (YtgmkfhhlnhgkhaaGreatDoorTie.lean); close each card by the builder's one call (the guide's Derived/Test/ToyasCard.lean, 'card_holds'). Laid BY PROGRAM, IN A SANDBOX (cutbox-door.mjs). By AI agents, Wed Nov 11 2026. No macro, syntax, notation, axiom, sorry.
-/
import Derived.Test.YtgmkfhhlnhgkhaaGreatDoorRows
import GoSem.ClaimSeven
namespace Go.Proofs.YtgmkfhhlnhgkhaaGreatDoor
namespace Rows

/-- THE TIED CARD OF 'laws.FnNodes'. -/
def fnNodesCard : Claim7 := { stood := { row := fnNodesRow, standIns := [], harness := (true, "f6313a01610ca6273f782969536e6ceae3752137d7defc221de0b2ccb4cd5a18"), looks := true }, kinds := [], alts := [], laidByText := true, laidKinds := [.handle], laidTests := true, laidLooks := .later }
def FnNodesCardSaid : Prop := Claim7.holds Tryz.pinned (.plain (OpenSpec.ofChange fnNodesSpec)) fnNodesCard

/-- THE TIED CARD OF 'laws.FnFound'. -/
def fnFoundCard : Claim7 := { stood := { row := fnFoundRow, standIns := [], harness := (true, "f6313a01610ca6273f782969536e6ceae3752137d7defc221de0b2ccb4cd5a18"), looks := true }, kinds := [], alts := [], laidByText := true, laidKinds := [.handle], laidTests := true, laidLooks := .later }
def FnFoundCardSaid : Prop := Claim7.holds Tryz.pinned (.plain (OpenSpec.ofChange fnFoundSpec)) fnFoundCard

/-- THE TIED CARD OF 'laws.FnListed'. -/
def fnListedCard : Claim7 := { stood := { row := fnListedRow, standIns := [], harness := (true, "f6313a01610ca6273f782969536e6ceae3752137d7defc221de0b2ccb4cd5a18"), looks := true }, kinds := [], alts := [], laidByText := true, laidKinds := [.handle, .data], laidTests := true, laidLooks := .later }
def FnListedCardSaid : Prop := Claim7.holds Tryz.pinned (.plain (OpenSpec.ofChange fnListedSpec)) fnListedCard

/-- THE TIED CARD OF 'laws.FnExactFindNode'. -/
def fnExactFindNodeCard : Claim7 := { stood := { row := fnExactFindNodeRow, standIns := [], harness := (true, "f6313a01610ca6273f782969536e6ceae3752137d7defc221de0b2ccb4cd5a18"), looks := true }, kinds := [], alts := [], laidByText := true, laidKinds := [.handle], laidTests := true, laidLooks := .later }
def FnExactFindNodeCardSaid : Prop := Claim7.holds Tryz.pinned (.plain (OpenSpec.ofChange fnExactFindNodeSpec)) fnExactFindNodeCard

/-- THE TIED CARD OF 'laws.FnExactFindPlace'. -/
def fnExactFindPlaceCard : Claim7 := { stood := { row := fnExactFindPlaceRow, standIns := [], harness := (true, "f6313a01610ca6273f782969536e6ceae3752137d7defc221de0b2ccb4cd5a18"), looks := true }, kinds := [], alts := [], laidByText := true, laidKinds := [.handle], laidTests := true, laidLooks := .later }
def FnExactFindPlaceCardSaid : Prop := Claim7.holds Tryz.pinned (.plain (OpenSpec.ofChange fnExactFindPlaceSpec)) fnExactFindPlaceCard

/-- THE TIED CARD OF 'laws.FnExactReadLink'. -/
def fnExactReadLinkCard : Claim7 := { stood := { row := fnExactReadLinkRow, standIns := [], harness := (true, "f6313a01610ca6273f782969536e6ceae3752137d7defc221de0b2ccb4cd5a18"), looks := true }, kinds := [], alts := [], laidByText := true, laidKinds := [.handle], laidTests := true, laidLooks := .later }
def FnExactReadLinkCardSaid : Prop := Claim7.holds Tryz.pinned (.plain (OpenSpec.ofChange fnExactReadLinkSpec)) fnExactReadLinkCard

/-- THE TIED CARD OF 'laws.FnExactListDir'. -/
def fnExactListDirCard : Claim7 := { stood := { row := fnExactListDirRow, standIns := [], harness := (true, "f6313a01610ca6273f782969536e6ceae3752137d7defc221de0b2ccb4cd5a18"), looks := true }, kinds := [], alts := [], laidByText := true, laidKinds := [.handle], laidTests := true, laidLooks := .later }
def FnExactListDirCardSaid : Prop := Claim7.holds Tryz.pinned (.plain (OpenSpec.ofChange fnExactListDirSpec)) fnExactListDirCard

/-- THE TIED CARD OF 'laws.FnExactRealPath'. -/
def fnExactRealPathCard : Claim7 := { stood := { row := fnExactRealPathRow, standIns := [], harness := (true, "f6313a01610ca6273f782969536e6ceae3752137d7defc221de0b2ccb4cd5a18"), looks := true }, kinds := [], alts := [], laidByText := true, laidKinds := [.handle], laidTests := true, laidLooks := .later }
def FnExactRealPathCardSaid : Prop := Claim7.holds Tryz.pinned (.plain (OpenSpec.ofChange fnExactRealPathSpec)) fnExactRealPathCard

/-- THE SECOND FORM's CARD OF 'laws.FnNodes'. -/
def fnNodesUptoCard : Claim7 := { stood := { row := fnNodesUptoRow, standIns := [], harness := (true, "f6313a01610ca6273f782969536e6ceae3752137d7defc221de0b2ccb4cd5a18"), looks := true }, kinds := [], alts := [], laidByText := true, laidKinds := [.handle], laidTests := true, laidLooks := .later }
def FnNodesUptoCardSaid : Prop := Claim7.holds Tryz.pinned (.plain (OpenSpec.upto fnNodesSpec)) fnNodesUptoCard

/-- THE SECOND FORM's CARD OF 'laws.FnFound'. -/
def fnFoundUptoCard : Claim7 := { stood := { row := fnFoundUptoRow, standIns := [], harness := (true, "f6313a01610ca6273f782969536e6ceae3752137d7defc221de0b2ccb4cd5a18"), looks := true }, kinds := [], alts := [], laidByText := true, laidKinds := [.handle], laidTests := true, laidLooks := .later }
def FnFoundUptoCardSaid : Prop := Claim7.holds Tryz.pinned (.plain (OpenSpec.upto fnFoundSpec)) fnFoundUptoCard

/-- THE SECOND FORM's CARD OF 'laws.FnListed'. -/
def fnListedUptoCard : Claim7 := { stood := { row := fnListedUptoRow, standIns := [], harness := (true, "f6313a01610ca6273f782969536e6ceae3752137d7defc221de0b2ccb4cd5a18"), looks := true }, kinds := [], alts := [], laidByText := true, laidKinds := [.handle, .data], laidTests := true, laidLooks := .later }
def FnListedUptoCardSaid : Prop := Claim7.holds Tryz.pinned (.plain (OpenSpec.upto fnListedSpec)) fnListedUptoCard

/-- THE SECOND FORM's CARD OF 'laws.FnExactFindNode'. -/
def fnExactFindNodeUptoCard : Claim7 := { stood := { row := fnExactFindNodeUptoRow, standIns := [], harness := (true, "f6313a01610ca6273f782969536e6ceae3752137d7defc221de0b2ccb4cd5a18"), looks := true }, kinds := [], alts := [], laidByText := true, laidKinds := [.handle], laidTests := true, laidLooks := .later }
def FnExactFindNodeUptoCardSaid : Prop := Claim7.holds Tryz.pinned (.plain (OpenSpec.upto fnExactFindNodeSpec)) fnExactFindNodeUptoCard

/-- THE SECOND FORM's CARD OF 'laws.FnExactFindPlace'. -/
def fnExactFindPlaceUptoCard : Claim7 := { stood := { row := fnExactFindPlaceUptoRow, standIns := [], harness := (true, "f6313a01610ca6273f782969536e6ceae3752137d7defc221de0b2ccb4cd5a18"), looks := true }, kinds := [], alts := [], laidByText := true, laidKinds := [.handle], laidTests := true, laidLooks := .later }
def FnExactFindPlaceUptoCardSaid : Prop := Claim7.holds Tryz.pinned (.plain (OpenSpec.upto fnExactFindPlaceSpec)) fnExactFindPlaceUptoCard

/-- THE SECOND FORM's CARD OF 'laws.FnExactReadLink'. -/
def fnExactReadLinkUptoCard : Claim7 := { stood := { row := fnExactReadLinkUptoRow, standIns := [], harness := (true, "f6313a01610ca6273f782969536e6ceae3752137d7defc221de0b2ccb4cd5a18"), looks := true }, kinds := [], alts := [], laidByText := true, laidKinds := [.handle], laidTests := true, laidLooks := .later }
def FnExactReadLinkUptoCardSaid : Prop := Claim7.holds Tryz.pinned (.plain (OpenSpec.upto fnExactReadLinkSpec)) fnExactReadLinkUptoCard

/-- THE SECOND FORM's CARD OF 'laws.FnExactListDir'. -/
def fnExactListDirUptoCard : Claim7 := { stood := { row := fnExactListDirUptoRow, standIns := [], harness := (true, "f6313a01610ca6273f782969536e6ceae3752137d7defc221de0b2ccb4cd5a18"), looks := true }, kinds := [], alts := [], laidByText := true, laidKinds := [.handle], laidTests := true, laidLooks := .later }
def FnExactListDirUptoCardSaid : Prop := Claim7.holds Tryz.pinned (.plain (OpenSpec.upto fnExactListDirSpec)) fnExactListDirUptoCard

/-- THE SECOND FORM's CARD OF 'laws.FnExactRealPath'. -/
def fnExactRealPathUptoCard : Claim7 := { stood := { row := fnExactRealPathUptoRow, standIns := [], harness := (true, "f6313a01610ca6273f782969536e6ceae3752137d7defc221de0b2ccb4cd5a18"), looks := true }, kinds := [], alts := [], laidByText := true, laidKinds := [.handle], laidTests := true, laidLooks := .later }
def FnExactRealPathUptoCardSaid : Prop := Claim7.holds Tryz.pinned (.plain (OpenSpec.upto fnExactRealPathSpec)) fnExactRealPathUptoCard
end Rows
end Go.Proofs.YtgmkfhhlnhgkhaaGreatDoor
