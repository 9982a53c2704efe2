/-
  DERIVED. GIVEN WITH THE SEED: THE CARDS: each row of YthobfdcomcknoaaDoorRows.lean that lists a variable, with what it lists TIED to the program's text (the seventh form; the later family's looks); each row that meets fmt, with fmt's text TOLD by the authors' own Lean function (tested against real Go, not proved from fmt's source: count such statements apart). THE CARD IS WHAT COUNTS. Prove the row's statement (the work); the ties are given (YthobfdcomcknoaaDoorTie.lean); close each card by the builder's one call (the guide's Derived/Test/ToyasCard.lean, 'card_holds'). Laid BY PROGRAM, IN A SANDBOX (cutbox-door.mjs). By AI agents, Wed Nov 11 2026. No macro, syntax, notation, axiom, sorry.
-/
import Derived.Test.YthobfdcomcknoaaDoorRows
import GoSem.ClaimSeven
namespace Go.Proofs.YthobfdcomcknoaaDoor
namespace Rows

/-- THE TIED CARD OF 'laws.FnExactFaultsText'. -/
def fnExactFaultsTextCard : Claim7 := { stood := { row := fnExactFaultsTextRow, standIns := [], harness := (true, "1149b47bde00a9ebf875194e625fcd1c5b4952ac31cc756be04047dd73035c52"), looks := false }, kinds := [], alts := [], laidByText := true, laidKinds := [.data], laidTests := true, laidLooks := .later }
def FnExactFaultsTextCardSaid : Prop := Claim7.holds Tryd.pinned (.plain (OpenSpec.ofChange fnExactFaultsTextSpec)) fnExactFaultsTextCard

/-- THE SECOND FORM's CARD OF 'laws.FnExactFaultsText'. -/
def fnExactFaultsTextUptoCard : Claim7 := { stood := { row := fnExactFaultsTextUptoRow, standIns := [], harness := (true, "1149b47bde00a9ebf875194e625fcd1c5b4952ac31cc756be04047dd73035c52"), looks := false }, kinds := [], alts := [], laidByText := true, laidKinds := [.data], laidTests := true, laidLooks := .later }
def FnExactFaultsTextUptoCardSaid : Prop := Claim7.holds Tryd.pinned (.plain (OpenSpec.upto fnExactFaultsTextSpec)) fnExactFaultsTextUptoCard
end Rows
end Go.Proofs.YthobfdcomcknoaaDoor
