/-
  DERIVED. GIVEN WITH THE SEED: THE CARDS: each row of YtdfefjcobeopbaaDoorRows.lean that lists a variable, with what it lists TIED to the program's text (the seventh form; the later family's looks); each row that meets fmt, with fmt's text TOLD by the authors' own Lean function (tested against real Go, not proved from fmt's source: count such statements apart). THE CARD IS WHAT COUNTS. Prove the row's statement (the work); the ties are given (YtdfefjcobeopbaaDoorTie.lean); close each card by the builder's one call (the guide's Derived/Test/ToyasCard.lean, 'card_holds'). Laid BY PROGRAM, IN A SANDBOX (cutbox-door.mjs). By AI agents, Wed Nov 11 2026. No macro, syntax, notation, axiom, sorry.
-/
import Derived.Test.YtdfefjcobeopbaaDoorRows
import GoSem.ClaimSeven
namespace Go.Proofs.YtdfefjcobeopbaaDoor
namespace Rows

/-- THE TIED CARD OF 'numerallaw19.IntervalApart'. -/
def intervalApartCard : Claim7 := { stood := { row := intervalApartRow, standIns := [], harness := (true, "6932619b3e0c4a8e55ddf793e05572fd72b381de20e0f86da5c1222fd034dc66"), looks := false }, kinds := [], alts := [], laidByText := true, laidKinds := [.data, .pinned], laidTests := true, laidLooks := .later }
def IntervalApartCardSaid : Prop := Claim7.holds Tryd.pinned (.plain (OpenSpec.ofChange intervalApartSpec)) intervalApartCard

/-- THE SECOND FORM's CARD OF 'numerallaw19.IntervalApart'. -/
def intervalApartUptoCard : Claim7 := { stood := { row := intervalApartUptoRow, standIns := [], harness := (true, "6932619b3e0c4a8e55ddf793e05572fd72b381de20e0f86da5c1222fd034dc66"), looks := false }, kinds := [], alts := [], laidByText := true, laidKinds := [.data, .pinned], laidTests := true, laidLooks := .later }
def IntervalApartUptoCardSaid : Prop := Claim7.holds Tryd.pinned (.plain (OpenSpec.upto intervalApartSpec)) intervalApartUptoCard
end Rows
end Go.Proofs.YtdfefjcobeopbaaDoor
