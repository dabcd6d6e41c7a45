/-
  DERIVED. GIVEN WITH THE SEED: THE CARDS: each row of YtoabdoognadijaaDoorRows.lean that lists a variable, with what it lists TIED to the program's text (the seventh form; the later family's looks); each row that meets fmt, with fmt's text TOLD by the authors' own Lean function (tested against real Go, not proved from fmt's source: count such statements apart). THE CARD IS WHAT COUNTS. Prove the row's statement (the work); the ties are given (YtoabdoognadijaaDoorTie.lean); close each card by the builder's one call (the guide's Derived/Test/ToyasCard.lean, 'card_holds'). Laid BY PROGRAM, IN A SANDBOX (cutbox-door.mjs). By AI agents, Wed Nov 11 2026. No macro, syntax, notation, axiom, sorry.
-/
import Derived.Test.YtoabdoognadijaaDoorRows
import GoSem.ClaimSeven
namespace Go.Proofs.YtoabdoognadijaaDoor
namespace Rows

/-- THE TIED CARD OF 'numerallaw09.WidthBounds'. -/
def widthBoundsCard : Claim7 := { stood := { row := widthBoundsRow, standIns := [], harness := (true, "ef3fb7782507309a3c470c9b28421c9de9e7d1614daf66501356d17b73160d17"), looks := true }, kinds := [], alts := [], laidByText := true, laidKinds := [.handle], laidTests := true, laidLooks := .later }
def WidthBoundsCardSaid : Prop := Claim7.holds Tryd.pinned (.plain (OpenSpec.ofChange widthBoundsSpec)) widthBoundsCard

/-- THE TIED CARD OF 'numerallaw09.WidthParses'. -/
def widthParsesCard : Claim7 := { stood := { row := widthParsesRow, standIns := [], harness := (true, "ef3fb7782507309a3c470c9b28421c9de9e7d1614daf66501356d17b73160d17"), looks := true }, kinds := [], alts := [], laidByText := true, laidKinds := [.handle], laidTests := true, laidLooks := .later }
def WidthParsesCardSaid : Prop := Claim7.holds Tryd.pinned (.plain (OpenSpec.ofChange widthParsesSpec)) widthParsesCard

/-- THE TIED CARD OF 'numerallaw09.WidthTells'. -/
def widthTellsCard : Claim7 := { stood := { row := widthTellsRow, standIns := [], harness := (true, "ef3fb7782507309a3c470c9b28421c9de9e7d1614daf66501356d17b73160d17"), looks := true }, kinds := [], alts := [], laidByText := true, laidKinds := [.handle], laidTests := true, laidLooks := .later }
def WidthTellsCardSaid : Prop := Claim7.holds Tryd.pinned (.plain (OpenSpec.ofChange widthTellsSpec)) widthTellsCard

/-- THE TIED CARD OF 'numerallaw09.WidthBack'. -/
def widthBackCard : Claim7 := { stood := { row := widthBackRow, standIns := [], harness := (true, "ef3fb7782507309a3c470c9b28421c9de9e7d1614daf66501356d17b73160d17"), looks := true }, kinds := [], alts := [], laidByText := true, laidKinds := [.handle], laidTests := true, laidLooks := .later }
def WidthBackCardSaid : Prop := Claim7.holds Tryd.pinned (.plain (OpenSpec.ofChange widthBackSpec)) widthBackCard

/-- THE SECOND FORM's CARD OF 'numerallaw09.WidthBounds'. -/
def widthBoundsUptoCard : Claim7 := { stood := { row := widthBoundsUptoRow, standIns := [], harness := (true, "ef3fb7782507309a3c470c9b28421c9de9e7d1614daf66501356d17b73160d17"), looks := true }, kinds := [], alts := [], laidByText := true, laidKinds := [.handle], laidTests := true, laidLooks := .later }
def WidthBoundsUptoCardSaid : Prop := Claim7.holds Tryd.pinned (.plain (OpenSpec.upto widthBoundsSpec)) widthBoundsUptoCard

/-- THE SECOND FORM's CARD OF 'numerallaw09.WidthParses'. -/
def widthParsesUptoCard : Claim7 := { stood := { row := widthParsesUptoRow, standIns := [], harness := (true, "ef3fb7782507309a3c470c9b28421c9de9e7d1614daf66501356d17b73160d17"), looks := true }, kinds := [], alts := [], laidByText := true, laidKinds := [.handle], laidTests := true, laidLooks := .later }
def WidthParsesUptoCardSaid : Prop := Claim7.holds Tryd.pinned (.plain (OpenSpec.upto widthParsesSpec)) widthParsesUptoCard

/-- THE SECOND FORM's CARD OF 'numerallaw09.WidthTells'. -/
def widthTellsUptoCard : Claim7 := { stood := { row := widthTellsUptoRow, standIns := [], harness := (true, "ef3fb7782507309a3c470c9b28421c9de9e7d1614daf66501356d17b73160d17"), looks := true }, kinds := [], alts := [], laidByText := true, laidKinds := [.handle], laidTests := true, laidLooks := .later }
def WidthTellsUptoCardSaid : Prop := Claim7.holds Tryd.pinned (.plain (OpenSpec.upto widthTellsSpec)) widthTellsUptoCard

/-- THE SECOND FORM's CARD OF 'numerallaw09.WidthBack'. -/
def widthBackUptoCard : Claim7 := { stood := { row := widthBackUptoRow, standIns := [], harness := (true, "ef3fb7782507309a3c470c9b28421c9de9e7d1614daf66501356d17b73160d17"), looks := true }, kinds := [], alts := [], laidByText := true, laidKinds := [.handle], laidTests := true, laidLooks := .later }
def WidthBackUptoCardSaid : Prop := Claim7.holds Tryd.pinned (.plain (OpenSpec.upto widthBackSpec)) widthBackUptoCard
end Rows
end Go.Proofs.YtoabdoognadijaaDoor
