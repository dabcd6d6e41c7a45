/-
  DERIVED. GIVEN WITH THE SEED: THE CARDS: each row of YtelobjhmbabiaaaDoorRows.lean that lists a variable, with what it lists TIED to the program's text (the seventh form; the later family's looks); each row that meets fmt, with fmt's text TOLD by the authors' own Lean function (tested against real Go, not proved from fmt's source: count such statements apart). THE CARD IS WHAT COUNTS. Prove the row's statement (the work); the ties are given (YtelobjhmbabiaaaDoorTie.lean); close each card by the builder's one call (the guide's Derived/Test/ToyasCard.lean, 'card_holds'). Laid BY PROGRAM, IN A SANDBOX (cutbox-door.mjs). By AI agents, Wed Nov 11 2026. No macro, syntax, notation, axiom, sorry.
-/
import Derived.Test.YtelobjhmbabiaaaDoorRows
import GoSem.ClaimSeven
namespace Go.Proofs.YtelobjhmbabiaaaDoor
namespace Rows

/-- THE TIED CARD OF 'numerallaw05.FaultQuotes'. -/
def faultQuotesCard : Claim7 := { stood := { row := faultQuotesRow, standIns := [], harness := (true, "f5221754c496841bd0e35500590691801de280fd6755fdb9e151a869951f2375"), looks := true }, kinds := [], alts := [], laidByText := true, laidKinds := [.data, .data, .data, .handle], laidTests := true, laidLooks := .later }
def FaultQuotesCardSaid : Prop := Claim7.holds Tryd.pinned (.plain (OpenSpec.ofChange faultQuotesSpec)) faultQuotesCard

/-- THE TIED CARD OF 'numerallaw05.FaultNames'. -/
def faultNamesCard : Claim7 := { stood := { row := faultNamesRow, standIns := [], harness := (true, "f5221754c496841bd0e35500590691801de280fd6755fdb9e151a869951f2375"), looks := true }, kinds := [], alts := [], laidByText := true, laidKinds := [.data, .data, .data], laidTests := true, laidLooks := .later }
def FaultNamesCardSaid : Prop := Claim7.holds Tryd.pinned (.plain (OpenSpec.ofChange faultNamesSpec)) faultNamesCard

/-- THE TIED CARD OF 'numerallaw05.FaultTells'. -/
def faultTellsCard : Claim7 := { stood := { row := faultTellsRow, standIns := [], harness := (true, "f5221754c496841bd0e35500590691801de280fd6755fdb9e151a869951f2375"), looks := true }, kinds := [], alts := [], laidByText := true, laidKinds := [.data, .data, .data, .handle], laidTests := true, laidLooks := .later }
def FaultTellsCardSaid : Prop := Claim7.holds Tryd.pinned (.plain (OpenSpec.ofChange faultTellsSpec)) faultTellsCard

/-- THE TIED CARD OF 'numerallaw05.FaultThrough'. -/
def faultThroughCard : Claim7 := { stood := { row := faultThroughRow, standIns := [], harness := (true, "f5221754c496841bd0e35500590691801de280fd6755fdb9e151a869951f2375"), looks := true }, kinds := [], alts := [], laidByText := true, laidKinds := [.data, .data, .data, .handle], laidTests := true, laidLooks := .later }
def FaultThroughCardSaid : Prop := Claim7.holds Tryd.pinned (.plain (OpenSpec.ofChange faultThroughSpec)) faultThroughCard

/-- THE TIED CARD OF 'numerallaw05.FaultBack'. -/
def faultBackCard : Claim7 := { stood := { row := faultBackRow, standIns := [], harness := (true, "f5221754c496841bd0e35500590691801de280fd6755fdb9e151a869951f2375"), looks := true }, kinds := [], alts := [], laidByText := true, laidKinds := [.data, .data, .data], laidTests := true, laidLooks := .later }
def FaultBackCardSaid : Prop := Claim7.holds Tryd.pinned (.plain (OpenSpec.ofChange faultBackSpec)) faultBackCard

/-- THE SECOND FORM's CARD OF 'numerallaw05.FaultQuotes'. -/
def faultQuotesUptoCard : Claim7 := { stood := { row := faultQuotesUptoRow, standIns := [], harness := (true, "f5221754c496841bd0e35500590691801de280fd6755fdb9e151a869951f2375"), looks := true }, kinds := [], alts := [], laidByText := true, laidKinds := [.data, .data, .data, .handle], laidTests := true, laidLooks := .later }
def FaultQuotesUptoCardSaid : Prop := Claim7.holds Tryd.pinned (.plain (OpenSpec.upto faultQuotesSpec)) faultQuotesUptoCard

/-- THE SECOND FORM's CARD OF 'numerallaw05.FaultNames'. -/
def faultNamesUptoCard : Claim7 := { stood := { row := faultNamesUptoRow, standIns := [], harness := (true, "f5221754c496841bd0e35500590691801de280fd6755fdb9e151a869951f2375"), looks := true }, kinds := [], alts := [], laidByText := true, laidKinds := [.data, .data, .data], laidTests := true, laidLooks := .later }
def FaultNamesUptoCardSaid : Prop := Claim7.holds Tryd.pinned (.plain (OpenSpec.upto faultNamesSpec)) faultNamesUptoCard

/-- THE SECOND FORM's CARD OF 'numerallaw05.FaultTells'. -/
def faultTellsUptoCard : Claim7 := { stood := { row := faultTellsUptoRow, standIns := [], harness := (true, "f5221754c496841bd0e35500590691801de280fd6755fdb9e151a869951f2375"), looks := true }, kinds := [], alts := [], laidByText := true, laidKinds := [.data, .data, .data, .handle], laidTests := true, laidLooks := .later }
def FaultTellsUptoCardSaid : Prop := Claim7.holds Tryd.pinned (.plain (OpenSpec.upto faultTellsSpec)) faultTellsUptoCard

/-- THE SECOND FORM's CARD OF 'numerallaw05.FaultThrough'. -/
def faultThroughUptoCard : Claim7 := { stood := { row := faultThroughUptoRow, standIns := [], harness := (true, "f5221754c496841bd0e35500590691801de280fd6755fdb9e151a869951f2375"), looks := true }, kinds := [], alts := [], laidByText := true, laidKinds := [.data, .data, .data, .handle], laidTests := true, laidLooks := .later }
def FaultThroughUptoCardSaid : Prop := Claim7.holds Tryd.pinned (.plain (OpenSpec.upto faultThroughSpec)) faultThroughUptoCard

/-- THE SECOND FORM's CARD OF 'numerallaw05.FaultBack'. -/
def faultBackUptoCard : Claim7 := { stood := { row := faultBackUptoRow, standIns := [], harness := (true, "f5221754c496841bd0e35500590691801de280fd6755fdb9e151a869951f2375"), looks := true }, kinds := [], alts := [], laidByText := true, laidKinds := [.data, .data, .data], laidTests := true, laidLooks := .later }
def FaultBackUptoCardSaid : Prop := Claim7.holds Tryd.pinned (.plain (OpenSpec.upto faultBackSpec)) faultBackUptoCard
end Rows
end Go.Proofs.YtelobjhmbabiaaaDoor
