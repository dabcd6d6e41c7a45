/-
  DERIVED. GIVEN WITH THE SEED: THE CARDS: each row of YtjagnfddmlkalaaGreatDoorRows.lean that lists a variable, with what it lists TIED to the program's text (the seventh form; the later family's looks); each row that meets fmt, with fmt's text TOLD by the authors' own Lean function (tested against real Go, not proved from fmt's source: count such statements apart). THE CARD IS WHAT COUNTS. Prove the row's statement (the work); the ties are given (YtjagnfddmlkalaaGreatDoorTie.lean); close each card by the builder's one call (the guide's Derived/Test/ToyasCard.lean, 'card_holds'). Laid BY PROGRAM, IN A SANDBOX (cutbox-door.mjs). By AI agents, Wed Nov 11 2026. No macro, syntax, notation, axiom, sorry.
-/
import Derived.Test.YtjagnfddmlkalaaGreatDoorRows
import GoSem.ClaimSeven
namespace Go.Proofs.YtjagnfddmlkalaaGreatDoor
namespace Rows

/-- THE TIED CARD OF 'numerallaw23.HastyDigits'. -/
def hastyDigitsCard : Claim7 := { stood := { row := hastyDigitsRow, standIns := [], harness := (true, "e9a3623fd7f4a1c4ef5c7fed1f84e22d7a289a5abe5b590df91c11e7a11de276"), looks := true }, kinds := [], alts := [], laidByText := true, laidKinds := [.data, .data, .data, .data, .handle, .pinned], laidTests := true, laidLooks := .later }
def HastyDigitsCardSaid : Prop := Claim7.holds Tryz.pinned (.plain (OpenSpec.ofChange hastyDigitsSpec)) hastyDigitsCard

/-- THE TIED CARD OF 'numerallaw23.HastyNear'. -/
def hastyNearCard : Claim7 := { stood := { row := hastyNearRow, standIns := [], harness := (true, "e9a3623fd7f4a1c4ef5c7fed1f84e22d7a289a5abe5b590df91c11e7a11de276"), looks := true }, kinds := [], alts := [], laidByText := true, laidKinds := [.data, .data, .data, .data, .pinned], laidTests := true, laidLooks := .later }
def HastyNearCardSaid : Prop := Claim7.holds Tryz.pinned (.plain (OpenSpec.ofChange hastyNearSpec)) hastyNearCard

/-- THE SECOND FORM's CARD OF 'numerallaw23.HastyDigits'. -/
def hastyDigitsUptoCard : Claim7 := { stood := { row := hastyDigitsUptoRow, standIns := [], harness := (true, "e9a3623fd7f4a1c4ef5c7fed1f84e22d7a289a5abe5b590df91c11e7a11de276"), looks := true }, kinds := [], alts := [], laidByText := true, laidKinds := [.data, .data, .data, .data, .handle, .pinned], laidTests := true, laidLooks := .later }
def HastyDigitsUptoCardSaid : Prop := Claim7.holds Tryz.pinned (.plain (OpenSpec.upto hastyDigitsSpec)) hastyDigitsUptoCard

/-- THE SECOND FORM's CARD OF 'numerallaw23.HastyNear'. -/
def hastyNearUptoCard : Claim7 := { stood := { row := hastyNearUptoRow, standIns := [], harness := (true, "e9a3623fd7f4a1c4ef5c7fed1f84e22d7a289a5abe5b590df91c11e7a11de276"), looks := true }, kinds := [], alts := [], laidByText := true, laidKinds := [.data, .data, .data, .data, .pinned], laidTests := true, laidLooks := .later }
def HastyNearUptoCardSaid : Prop := Claim7.holds Tryz.pinned (.plain (OpenSpec.upto hastyNearSpec)) hastyNearUptoCard
end Rows
end Go.Proofs.YtjagnfddmlkalaaGreatDoor
