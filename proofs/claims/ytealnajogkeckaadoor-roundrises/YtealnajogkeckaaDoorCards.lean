/-
  DERIVED. GIVEN WITH THE SEED: THE CARDS: each row of YtealnajogkeckaaDoorRows.lean that lists a variable, with what it lists TIED to the program's text (the seventh form; the later family's looks); each row that meets fmt, with fmt's text TOLD by the authors' own Lean function (tested against real Go, not proved from fmt's source: count such statements apart). THE CARD IS WHAT COUNTS. Prove the row's statement (the work); the ties are given (YtealnajogkeckaaDoorTie.lean); close each card by the builder's one call (the guide's Derived/Test/ToyasCard.lean, 'card_holds'). Laid BY PROGRAM, IN A SANDBOX (cutbox-door.mjs). By AI agents, Wed Nov 11 2026. No macro, syntax, notation, axiom, sorry.
-/
import Derived.Test.YtealnajogkeckaaDoorRows
import GoSem.ClaimSeven
namespace Go.Proofs.YtealnajogkeckaaDoor
namespace Rows

/-- THE TIED CARD OF 'numerallaw12.RoundRatios'. -/
def roundRatiosCard : Claim7 := { stood := { row := roundRatiosRow, standIns := [], harness := (true, "15c77c8bb1a2dfd2bcb05254ca5309d7a5ee86a805e5a38d2f9f977c18eeb7f1"), looks := true }, kinds := [], alts := [], laidByText := true, laidKinds := [.data], laidTests := true, laidLooks := .later }
def RoundRatiosCardSaid : Prop := Claim7.holds Tryd.pinned (.plain (OpenSpec.ofChange roundRatiosSpec)) roundRatiosCard

/-- THE TIED CARD OF 'numerallaw12.RoundWholes'. -/
def roundWholesCard : Claim7 := { stood := { row := roundWholesRow, standIns := [], harness := (true, "15c77c8bb1a2dfd2bcb05254ca5309d7a5ee86a805e5a38d2f9f977c18eeb7f1"), looks := true }, kinds := [], alts := [], laidByText := true, laidKinds := [.data], laidTests := true, laidLooks := .later }
def RoundWholesCardSaid : Prop := Claim7.holds Tryd.pinned (.plain (OpenSpec.ofChange roundWholesSpec)) roundWholesCard

/-- THE TIED CARD OF 'numerallaw12.RoundValues'. -/
def roundValuesCard : Claim7 := { stood := { row := roundValuesRow, standIns := [], harness := (true, "15c77c8bb1a2dfd2bcb05254ca5309d7a5ee86a805e5a38d2f9f977c18eeb7f1"), looks := true }, kinds := [], alts := [], laidByText := true, laidKinds := [.data], laidTests := true, laidLooks := .later }
def RoundValuesCardSaid : Prop := Claim7.holds Tryd.pinned (.plain (OpenSpec.ofChange roundValuesSpec)) roundValuesCard

/-- THE TIED CARD OF 'numerallaw12.RoundBack'. -/
def roundBackCard : Claim7 := { stood := { row := roundBackRow, standIns := [], harness := (true, "15c77c8bb1a2dfd2bcb05254ca5309d7a5ee86a805e5a38d2f9f977c18eeb7f1"), looks := true }, kinds := [], alts := [], laidByText := true, laidKinds := [.data], laidTests := true, laidLooks := .later }
def RoundBackCardSaid : Prop := Claim7.holds Tryd.pinned (.plain (OpenSpec.ofChange roundBackSpec)) roundBackCard

/-- THE TIED CARD OF 'numerallaw12.RoundSame'. -/
def roundSameCard : Claim7 := { stood := { row := roundSameRow, standIns := [], harness := (true, "15c77c8bb1a2dfd2bcb05254ca5309d7a5ee86a805e5a38d2f9f977c18eeb7f1"), looks := true }, kinds := [], alts := [], laidByText := true, laidKinds := [.data], laidTests := true, laidLooks := .later }
def RoundSameCardSaid : Prop := Claim7.holds Tryd.pinned (.plain (OpenSpec.ofChange roundSameSpec)) roundSameCard

/-- THE TIED CARD OF 'numerallaw12.RoundRises'. -/
def roundRisesCard : Claim7 := { stood := { row := roundRisesRow, standIns := [], harness := (true, "15c77c8bb1a2dfd2bcb05254ca5309d7a5ee86a805e5a38d2f9f977c18eeb7f1"), looks := true }, kinds := [], alts := [], laidByText := true, laidKinds := [.data], laidTests := true, laidLooks := .later }
def RoundRisesCardSaid : Prop := Claim7.holds Tryd.pinned (.plain (OpenSpec.ofChange roundRisesSpec)) roundRisesCard

/-- THE SECOND FORM's CARD OF 'numerallaw12.RoundRatios'. -/
def roundRatiosUptoCard : Claim7 := { stood := { row := roundRatiosUptoRow, standIns := [], harness := (true, "15c77c8bb1a2dfd2bcb05254ca5309d7a5ee86a805e5a38d2f9f977c18eeb7f1"), looks := true }, kinds := [], alts := [], laidByText := true, laidKinds := [.data], laidTests := true, laidLooks := .later }
def RoundRatiosUptoCardSaid : Prop := Claim7.holds Tryd.pinned (.plain (OpenSpec.upto roundRatiosSpec)) roundRatiosUptoCard

/-- THE SECOND FORM's CARD OF 'numerallaw12.RoundWholes'. -/
def roundWholesUptoCard : Claim7 := { stood := { row := roundWholesUptoRow, standIns := [], harness := (true, "15c77c8bb1a2dfd2bcb05254ca5309d7a5ee86a805e5a38d2f9f977c18eeb7f1"), looks := true }, kinds := [], alts := [], laidByText := true, laidKinds := [.data], laidTests := true, laidLooks := .later }
def RoundWholesUptoCardSaid : Prop := Claim7.holds Tryd.pinned (.plain (OpenSpec.upto roundWholesSpec)) roundWholesUptoCard

/-- THE SECOND FORM's CARD OF 'numerallaw12.RoundValues'. -/
def roundValuesUptoCard : Claim7 := { stood := { row := roundValuesUptoRow, standIns := [], harness := (true, "15c77c8bb1a2dfd2bcb05254ca5309d7a5ee86a805e5a38d2f9f977c18eeb7f1"), looks := true }, kinds := [], alts := [], laidByText := true, laidKinds := [.data], laidTests := true, laidLooks := .later }
def RoundValuesUptoCardSaid : Prop := Claim7.holds Tryd.pinned (.plain (OpenSpec.upto roundValuesSpec)) roundValuesUptoCard

/-- THE SECOND FORM's CARD OF 'numerallaw12.RoundBack'. -/
def roundBackUptoCard : Claim7 := { stood := { row := roundBackUptoRow, standIns := [], harness := (true, "15c77c8bb1a2dfd2bcb05254ca5309d7a5ee86a805e5a38d2f9f977c18eeb7f1"), looks := true }, kinds := [], alts := [], laidByText := true, laidKinds := [.data], laidTests := true, laidLooks := .later }
def RoundBackUptoCardSaid : Prop := Claim7.holds Tryd.pinned (.plain (OpenSpec.upto roundBackSpec)) roundBackUptoCard

/-- THE SECOND FORM's CARD OF 'numerallaw12.RoundSame'. -/
def roundSameUptoCard : Claim7 := { stood := { row := roundSameUptoRow, standIns := [], harness := (true, "15c77c8bb1a2dfd2bcb05254ca5309d7a5ee86a805e5a38d2f9f977c18eeb7f1"), looks := true }, kinds := [], alts := [], laidByText := true, laidKinds := [.data], laidTests := true, laidLooks := .later }
def RoundSameUptoCardSaid : Prop := Claim7.holds Tryd.pinned (.plain (OpenSpec.upto roundSameSpec)) roundSameUptoCard

/-- THE SECOND FORM's CARD OF 'numerallaw12.RoundRises'. -/
def roundRisesUptoCard : Claim7 := { stood := { row := roundRisesUptoRow, standIns := [], harness := (true, "15c77c8bb1a2dfd2bcb05254ca5309d7a5ee86a805e5a38d2f9f977c18eeb7f1"), looks := true }, kinds := [], alts := [], laidByText := true, laidKinds := [.data], laidTests := true, laidLooks := .later }
def RoundRisesUptoCardSaid : Prop := Claim7.holds Tryd.pinned (.plain (OpenSpec.upto roundRisesSpec)) roundRisesUptoCard
end Rows
end Go.Proofs.YtealnajogkeckaaDoor
