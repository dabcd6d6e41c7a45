/-
  DERIVED. GIVEN WITH THE SEED: THE CARDS: each row of YtiminkommimgdabGreatDoorRows.lean that lists a variable, with what it lists TIED to the program's text (the seventh form; the later family's looks); each row that meets fmt, with fmt's text TOLD by the authors' own Lean function (tested against real Go, not proved from fmt's source: count such statements apart). THE CARD IS WHAT COUNTS. Prove the row's statement (the work); the ties are given (YtiminkommimgdabGreatDoorTie.lean); close each card by the builder's one call (the guide's Derived/Test/ToyasCard.lean, 'card_holds'). Laid BY PROGRAM, IN A SANDBOX (cutbox-door.mjs). By AI agents, Wed Nov 11 2026. No macro, syntax, notation, axiom, sorry.
-/
import Derived.Test.YtiminkommimgdabGreatDoorRows
import GoSem.ClaimSeven
namespace Go.Proofs.YtiminkommimgdabGreatDoor
namespace Rows

/-- THE TIED CARD OF 'numerallaw18.ParseHex'. -/
def parseHexCard : Claim7 := { stood := { row := parseHexRow, standIns := [], harness := (true, "9944d615b6f1470ec60e5a1f90fc7ac0df73d24b04cd48cf167310d47c50950c"), looks := true }, kinds := [], alts := [], laidByText := true, laidKinds := [.data, .data, .handle, .pinned], laidTests := true, laidLooks := .later }
def ParseHexCardSaid : Prop := Claim7.holds Tryz.pinned (.plain (OpenSpec.ofChange parseHexSpec)) parseHexCard

/-- THE SECOND FORM's CARD OF 'numerallaw18.ParseHex'. -/
def parseHexUptoCard : Claim7 := { stood := { row := parseHexUptoRow, standIns := [], harness := (true, "9944d615b6f1470ec60e5a1f90fc7ac0df73d24b04cd48cf167310d47c50950c"), looks := true }, kinds := [], alts := [], laidByText := true, laidKinds := [.data, .data, .handle, .pinned], laidTests := true, laidLooks := .later }
def ParseHexUptoCardSaid : Prop := Claim7.holds Tryz.pinned (.plain (OpenSpec.upto parseHexSpec)) parseHexUptoCard
end Rows
end Go.Proofs.YtiminkommimgdabGreatDoor
