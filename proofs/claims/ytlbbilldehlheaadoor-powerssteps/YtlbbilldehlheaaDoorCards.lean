/-
  DERIVED. GIVEN WITH THE SEED: THE CARDS: each row of YtlbbilldehlheaaDoorRows.lean that lists a variable, with what it lists TIED to the program's text (the seventh form; the later family's looks); each row that meets fmt, with fmt's text TOLD by the authors' own Lean function (tested against real Go, not proved from fmt's source: count such statements apart). THE CARD IS WHAT COUNTS. Prove the row's statement (the work); the ties are given (YtlbbilldehlheaaDoorTie.lean); close each card by the builder's one call (the guide's Derived/Test/ToyasCard.lean, 'card_holds'). Laid BY PROGRAM, IN A SANDBOX (cutbox-door.mjs). By AI agents, Wed Nov 11 2026. No macro, syntax, notation, axiom, sorry.
-/
import Derived.Test.YtlbbilldehlheaaDoorRows
import GoSem.ClaimSeven
namespace Go.Proofs.YtlbbilldehlheaaDoor
namespace Rows

/-- THE TIED CARD OF 'numerallaw13.PowersOf'. -/
def powersOfCard : Claim7 := { stood := { row := powersOfRow, standIns := [], harness := (true, "0f249f78a069b775f3c9f7014cabd4ab4c3551115ee378b6abe053b94684541c"), looks := true }, kinds := [], alts := [], laidByText := true, laidKinds := [.data, .handle], laidTests := true, laidLooks := .later }
def PowersOfCardSaid : Prop := Claim7.holds Tryd.pinned (.plain (OpenSpec.ofChange powersOfSpec)) powersOfCard

/-- THE TIED CARD OF 'numerallaw13.PowersDigits'. -/
def powersDigitsCard : Claim7 := { stood := { row := powersDigitsRow, standIns := [], harness := (true, "0f249f78a069b775f3c9f7014cabd4ab4c3551115ee378b6abe053b94684541c"), looks := true }, kinds := [], alts := [], laidByText := true, laidKinds := [.data, .handle], laidTests := true, laidLooks := .later }
def PowersDigitsCardSaid : Prop := Claim7.holds Tryd.pinned (.plain (OpenSpec.ofChange powersDigitsSpec)) powersDigitsCard

/-- THE TIED CARD OF 'numerallaw13.PowersSteps'. -/
def powersStepsCard : Claim7 := { stood := { row := powersStepsRow, standIns := [], harness := (true, "0f249f78a069b775f3c9f7014cabd4ab4c3551115ee378b6abe053b94684541c"), looks := true }, kinds := [], alts := [], laidByText := true, laidKinds := [.data], laidTests := true, laidLooks := .later }
def PowersStepsCardSaid : Prop := Claim7.holds Tryd.pinned (.plain (OpenSpec.ofChange powersStepsSpec)) powersStepsCard

/-- THE SECOND FORM's CARD OF 'numerallaw13.PowersOf'. -/
def powersOfUptoCard : Claim7 := { stood := { row := powersOfUptoRow, standIns := [], harness := (true, "0f249f78a069b775f3c9f7014cabd4ab4c3551115ee378b6abe053b94684541c"), looks := true }, kinds := [], alts := [], laidByText := true, laidKinds := [.data, .handle], laidTests := true, laidLooks := .later }
def PowersOfUptoCardSaid : Prop := Claim7.holds Tryd.pinned (.plain (OpenSpec.upto powersOfSpec)) powersOfUptoCard

/-- THE SECOND FORM's CARD OF 'numerallaw13.PowersDigits'. -/
def powersDigitsUptoCard : Claim7 := { stood := { row := powersDigitsUptoRow, standIns := [], harness := (true, "0f249f78a069b775f3c9f7014cabd4ab4c3551115ee378b6abe053b94684541c"), looks := true }, kinds := [], alts := [], laidByText := true, laidKinds := [.data, .handle], laidTests := true, laidLooks := .later }
def PowersDigitsUptoCardSaid : Prop := Claim7.holds Tryd.pinned (.plain (OpenSpec.upto powersDigitsSpec)) powersDigitsUptoCard

/-- THE SECOND FORM's CARD OF 'numerallaw13.PowersSteps'. -/
def powersStepsUptoCard : Claim7 := { stood := { row := powersStepsUptoRow, standIns := [], harness := (true, "0f249f78a069b775f3c9f7014cabd4ab4c3551115ee378b6abe053b94684541c"), looks := true }, kinds := [], alts := [], laidByText := true, laidKinds := [.data], laidTests := true, laidLooks := .later }
def PowersStepsUptoCardSaid : Prop := Claim7.holds Tryd.pinned (.plain (OpenSpec.upto powersStepsSpec)) powersStepsUptoCard
end Rows
end Go.Proofs.YtlbbilldehlheaaDoor
