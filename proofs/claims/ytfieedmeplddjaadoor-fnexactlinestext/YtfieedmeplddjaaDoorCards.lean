/-
  DERIVED. GIVEN WITH THE SEED: THE CARDS: each row of YtfieedmeplddjaaDoorRows.lean that lists a variable, with what it lists TIED to the program's text (the seventh form; the later family's looks); each row that meets fmt, with fmt's text TOLD by the authors' own Lean function (tested against real Go, not proved from fmt's source: count such statements apart). THE CARD IS WHAT COUNTS. Prove the row's statement (the work); the ties are given (YtfieedmeplddjaaDoorTie.lean); close each card by the builder's one call (the guide's Derived/Test/ToyasCard.lean, 'card_holds'). Laid BY PROGRAM, IN A SANDBOX (cutbox-door.mjs). By AI agents, Wed Nov 11 2026. No macro, syntax, notation, axiom, sorry.
-/
import Derived.Test.YtfieedmeplddjaaDoorRows
import GoSem.ClaimSeven
namespace Go.Proofs.YtfieedmeplddjaaDoor
namespace Rows

/-- THE TIED CARD OF 'laws.FnExactLinesText'. -/
def fnExactLinesTextCard : Claim7 := { stood := { row := fnExactLinesTextRow, standIns := [], harness := (true, "0a687a34f57d5395e581a0356233398a6fb0cce9185cc27974bf065302307e0f"), looks := false }, kinds := [], alts := [], laidByText := true, laidKinds := [.data, .data, .data], laidTests := true, laidLooks := .later }
def FnExactLinesTextCardSaid : Prop := Claim7.holds Tryd.pinned (.plain (OpenSpec.ofChange fnExactLinesTextSpec)) fnExactLinesTextCard

/-- THE TIED CARD OF 'laws.FnExactFaultsText'. -/
def fnExactFaultsTextCard : Claim7 := { stood := { row := fnExactFaultsTextRow, standIns := [], harness := (true, "0a687a34f57d5395e581a0356233398a6fb0cce9185cc27974bf065302307e0f"), looks := false }, kinds := [], alts := [], laidByText := true, laidKinds := [.data], laidTests := true, laidLooks := .later }
def FnExactFaultsTextCardSaid : Prop := Claim7.holds Tryd.pinned (.plain (OpenSpec.ofChange fnExactFaultsTextSpec)) fnExactFaultsTextCard

/-- THE SECOND FORM's CARD OF 'laws.FnExactLinesText'. -/
def fnExactLinesTextUptoCard : Claim7 := { stood := { row := fnExactLinesTextUptoRow, standIns := [], harness := (true, "0a687a34f57d5395e581a0356233398a6fb0cce9185cc27974bf065302307e0f"), looks := false }, kinds := [], alts := [], laidByText := true, laidKinds := [.data, .data, .data], laidTests := true, laidLooks := .later }
def FnExactLinesTextUptoCardSaid : Prop := Claim7.holds Tryd.pinned (.plain (OpenSpec.upto fnExactLinesTextSpec)) fnExactLinesTextUptoCard

/-- THE SECOND FORM's CARD OF 'laws.FnExactFaultsText'. -/
def fnExactFaultsTextUptoCard : Claim7 := { stood := { row := fnExactFaultsTextUptoRow, standIns := [], harness := (true, "0a687a34f57d5395e581a0356233398a6fb0cce9185cc27974bf065302307e0f"), looks := false }, kinds := [], alts := [], laidByText := true, laidKinds := [.data], laidTests := true, laidLooks := .later }
def FnExactFaultsTextUptoCardSaid : Prop := Claim7.holds Tryd.pinned (.plain (OpenSpec.upto fnExactFaultsTextSpec)) fnExactFaultsTextUptoCard
end Rows
end Go.Proofs.YtfieedmeplddjaaDoor
