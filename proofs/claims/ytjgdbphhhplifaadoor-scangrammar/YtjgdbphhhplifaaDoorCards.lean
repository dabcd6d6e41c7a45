/-
  DERIVED. GIVEN WITH THE SEED: THE CARDS: each row of YtjgdbphhhplifaaDoorRows.lean that lists a variable, with what it lists TIED to the program's text (the seventh form; the later family's looks); each row that meets fmt, with fmt's text TOLD by the authors' own Lean function (tested against real Go, not proved from fmt's source: count such statements apart). THE CARD IS WHAT COUNTS. Prove the row's statement (the work); the ties are given (YtjgdbphhhplifaaDoorTie.lean); close each card by the builder's one call (the guide's Derived/Test/ToyasCard.lean, 'card_holds'). Laid BY PROGRAM, IN A SANDBOX (cutbox-door.mjs). By AI agents, Wed Nov 11 2026. No macro, syntax, notation, axiom, sorry.
-/
import Derived.Test.YtjgdbphhhplifaaDoorRows
import GoSem.ClaimSeven
namespace Go.Proofs.YtjgdbphhhplifaaDoor
namespace Rows

/-- THE TIED CARD OF 'numerallaw10.ScanReads'. -/
def scanReadsCard : Claim7 := { stood := { row := scanReadsRow, standIns := [], harness := (true, "66fda7a393adc6dba99401029ec7933b335dd0662a13a4dc2d2cbfb9b1f73be1"), looks := true }, kinds := [], alts := [], laidByText := true, laidKinds := [.data, .pinned], laidTests := true, laidLooks := .later }
def ScanReadsCardSaid : Prop := Claim7.holds Tryd.pinned (.plain (OpenSpec.ofChange scanReadsSpec)) scanReadsCard

/-- THE TIED CARD OF 'numerallaw10.ScanDecs'. -/
def scanDecsCard : Claim7 := { stood := { row := scanDecsRow, standIns := [], harness := (true, "66fda7a393adc6dba99401029ec7933b335dd0662a13a4dc2d2cbfb9b1f73be1"), looks := true }, kinds := [], alts := [], laidByText := true, laidKinds := [.data, .pinned], laidTests := true, laidLooks := .later }
def ScanDecsCardSaid : Prop := Claim7.holds Tryd.pinned (.plain (OpenSpec.ofChange scanDecsSpec)) scanDecsCard

/-- THE TIED CARD OF 'numerallaw10.ScanGrammar'. -/
def scanGrammarCard : Claim7 := { stood := { row := scanGrammarRow, standIns := [], harness := (true, "66fda7a393adc6dba99401029ec7933b335dd0662a13a4dc2d2cbfb9b1f73be1"), looks := true }, kinds := [], alts := [], laidByText := true, laidKinds := [.data, .pinned], laidTests := true, laidLooks := .later }
def ScanGrammarCardSaid : Prop := Claim7.holds Tryd.pinned (.plain (OpenSpec.ofChange scanGrammarSpec)) scanGrammarCard

/-- THE TIED CARD OF 'numerallaw10.ScanWhole'. -/
def scanWholeCard : Claim7 := { stood := { row := scanWholeRow, standIns := [], harness := (true, "66fda7a393adc6dba99401029ec7933b335dd0662a13a4dc2d2cbfb9b1f73be1"), looks := true }, kinds := [], alts := [], laidByText := true, laidKinds := [.data, .pinned], laidTests := true, laidLooks := .later }
def ScanWholeCardSaid : Prop := Claim7.holds Tryd.pinned (.plain (OpenSpec.ofChange scanWholeSpec)) scanWholeCard

/-- THE TIED CARD OF 'numerallaw10.ScanNoughts'. -/
def scanNoughtsCard : Claim7 := { stood := { row := scanNoughtsRow, standIns := [], harness := (true, "66fda7a393adc6dba99401029ec7933b335dd0662a13a4dc2d2cbfb9b1f73be1"), looks := true }, kinds := [], alts := [], laidByText := true, laidKinds := [.data, .pinned], laidTests := true, laidLooks := .later }
def ScanNoughtsCardSaid : Prop := Claim7.holds Tryd.pinned (.plain (OpenSpec.ofChange scanNoughtsSpec)) scanNoughtsCard

/-- THE SECOND FORM's CARD OF 'numerallaw10.ScanReads'. -/
def scanReadsUptoCard : Claim7 := { stood := { row := scanReadsUptoRow, standIns := [], harness := (true, "66fda7a393adc6dba99401029ec7933b335dd0662a13a4dc2d2cbfb9b1f73be1"), looks := true }, kinds := [], alts := [], laidByText := true, laidKinds := [.data, .pinned], laidTests := true, laidLooks := .later }
def ScanReadsUptoCardSaid : Prop := Claim7.holds Tryd.pinned (.plain (OpenSpec.upto scanReadsSpec)) scanReadsUptoCard

/-- THE SECOND FORM's CARD OF 'numerallaw10.ScanDecs'. -/
def scanDecsUptoCard : Claim7 := { stood := { row := scanDecsUptoRow, standIns := [], harness := (true, "66fda7a393adc6dba99401029ec7933b335dd0662a13a4dc2d2cbfb9b1f73be1"), looks := true }, kinds := [], alts := [], laidByText := true, laidKinds := [.data, .pinned], laidTests := true, laidLooks := .later }
def ScanDecsUptoCardSaid : Prop := Claim7.holds Tryd.pinned (.plain (OpenSpec.upto scanDecsSpec)) scanDecsUptoCard

/-- THE SECOND FORM's CARD OF 'numerallaw10.ScanGrammar'. -/
def scanGrammarUptoCard : Claim7 := { stood := { row := scanGrammarUptoRow, standIns := [], harness := (true, "66fda7a393adc6dba99401029ec7933b335dd0662a13a4dc2d2cbfb9b1f73be1"), looks := true }, kinds := [], alts := [], laidByText := true, laidKinds := [.data, .pinned], laidTests := true, laidLooks := .later }
def ScanGrammarUptoCardSaid : Prop := Claim7.holds Tryd.pinned (.plain (OpenSpec.upto scanGrammarSpec)) scanGrammarUptoCard

/-- THE SECOND FORM's CARD OF 'numerallaw10.ScanWhole'. -/
def scanWholeUptoCard : Claim7 := { stood := { row := scanWholeUptoRow, standIns := [], harness := (true, "66fda7a393adc6dba99401029ec7933b335dd0662a13a4dc2d2cbfb9b1f73be1"), looks := true }, kinds := [], alts := [], laidByText := true, laidKinds := [.data, .pinned], laidTests := true, laidLooks := .later }
def ScanWholeUptoCardSaid : Prop := Claim7.holds Tryd.pinned (.plain (OpenSpec.upto scanWholeSpec)) scanWholeUptoCard

/-- THE SECOND FORM's CARD OF 'numerallaw10.ScanNoughts'. -/
def scanNoughtsUptoCard : Claim7 := { stood := { row := scanNoughtsUptoRow, standIns := [], harness := (true, "66fda7a393adc6dba99401029ec7933b335dd0662a13a4dc2d2cbfb9b1f73be1"), looks := true }, kinds := [], alts := [], laidByText := true, laidKinds := [.data, .pinned], laidTests := true, laidLooks := .later }
def ScanNoughtsUptoCardSaid : Prop := Claim7.holds Tryd.pinned (.plain (OpenSpec.upto scanNoughtsSpec)) scanNoughtsUptoCard
end Rows
end Go.Proofs.YtjgdbphhhplifaaDoor
