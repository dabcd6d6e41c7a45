/-
  DERIVED. GIVEN WITH THE SEED: THE CARDS: each row of YtladeppjccfbhaaDoorRows.lean that lists a variable, with what it lists TIED to the program's text (the seventh form; the later family's looks); each row that meets fmt, with fmt's text TOLD by the authors' own Lean function (tested against real Go, not proved from fmt's source: count such statements apart). THE CARD IS WHAT COUNTS. Prove the row's statement (the work); the ties are given (YtladeppjccfbhaaDoorTie.lean); close each card by the builder's one call (the guide's Derived/Test/ToyasCard.lean, 'card_holds'). Laid BY PROGRAM, IN A SANDBOX (cutbox-door.mjs). By AI agents, Wed Nov 11 2026. No macro, syntax, notation, axiom, sorry.
-/
import Derived.Test.YtladeppjccfbhaaDoorRows
import GoSem.ClaimSeven
namespace Go.Proofs.YtladeppjccfbhaaDoor
namespace Rows

/-- THE TIED CARD OF 'numerallaw03.DecCompares'. -/
def decComparesCard : Claim7 := { stood := { row := decComparesRow, standIns := [], harness := (true, "5feceda79f9b1dc8ca41ace1ba0889a67c7f5eb401c0286d0001a9a2cd280ef1"), looks := true }, kinds := [], alts := [], laidByText := true, laidKinds := [.data, .handle, .pinned], laidTests := true, laidLooks := .later }
def DecComparesCardSaid : Prop := Claim7.holds Tryd.pinned (.plain (OpenSpec.ofChange decComparesSpec)) decComparesCard

/-- THE TIED CARD OF 'numerallaw03.DecRounds'. -/
def decRoundsCard : Claim7 := { stood := { row := decRoundsRow, standIns := [], harness := (true, "5feceda79f9b1dc8ca41ace1ba0889a67c7f5eb401c0286d0001a9a2cd280ef1"), looks := true }, kinds := [], alts := [], laidByText := true, laidKinds := [.data, .handle, .pinned], laidTests := true, laidLooks := .later }
def DecRoundsCardSaid : Prop := Claim7.holds Tryd.pinned (.plain (OpenSpec.ofChange decRoundsSpec)) decRoundsCard

/-- THE TIED CARD OF 'numerallaw03.DecHalves'. -/
def decHalvesCard : Claim7 := { stood := { row := decHalvesRow, standIns := [], harness := (true, "5feceda79f9b1dc8ca41ace1ba0889a67c7f5eb401c0286d0001a9a2cd280ef1"), looks := true }, kinds := [], alts := [], laidByText := true, laidKinds := [.data, .handle, .pinned], laidTests := true, laidLooks := .later }
def DecHalvesCardSaid : Prop := Claim7.holds Tryd.pinned (.plain (OpenSpec.ofChange decHalvesSpec)) decHalvesCard

/-- THE TIED CARD OF 'numerallaw03.DecOrder'. -/
def decOrderCard : Claim7 := { stood := { row := decOrderRow, standIns := [], harness := (true, "5feceda79f9b1dc8ca41ace1ba0889a67c7f5eb401c0286d0001a9a2cd280ef1"), looks := true }, kinds := [], alts := [], laidByText := true, laidKinds := [.data, .data, .data, .data, .sentinel, .sentinel, .pinned], laidTests := true, laidLooks := .later }
def DecOrderCardSaid : Prop := Claim7.holds Tryd.pinned (.plain (OpenSpec.ofChange decOrderSpec)) decOrderCard

/-- THE TIED CARD OF 'numerallaw04.MeterRuns'. -/
def meterRunsCard : Claim7 := { stood := { row := meterRunsRow, standIns := [], harness := (true, "5feceda79f9b1dc8ca41ace1ba0889a67c7f5eb401c0286d0001a9a2cd280ef1"), looks := true }, kinds := [], alts := [], laidByText := true, laidKinds := [.data, .data, .data], laidTests := true, laidLooks := .later }
def MeterRunsCardSaid : Prop := Claim7.holds Tryd.pinned (.plain (OpenSpec.ofChange meterRunsSpec)) meterRunsCard

/-- THE SECOND FORM's CARD OF 'numerallaw03.DecCompares'. -/
def decComparesUptoCard : Claim7 := { stood := { row := decComparesUptoRow, standIns := [], harness := (true, "5feceda79f9b1dc8ca41ace1ba0889a67c7f5eb401c0286d0001a9a2cd280ef1"), looks := true }, kinds := [], alts := [], laidByText := true, laidKinds := [.data, .handle, .pinned], laidTests := true, laidLooks := .later }
def DecComparesUptoCardSaid : Prop := Claim7.holds Tryd.pinned (.plain (OpenSpec.upto decComparesSpec)) decComparesUptoCard

/-- THE SECOND FORM's CARD OF 'numerallaw03.DecRounds'. -/
def decRoundsUptoCard : Claim7 := { stood := { row := decRoundsUptoRow, standIns := [], harness := (true, "5feceda79f9b1dc8ca41ace1ba0889a67c7f5eb401c0286d0001a9a2cd280ef1"), looks := true }, kinds := [], alts := [], laidByText := true, laidKinds := [.data, .handle, .pinned], laidTests := true, laidLooks := .later }
def DecRoundsUptoCardSaid : Prop := Claim7.holds Tryd.pinned (.plain (OpenSpec.upto decRoundsSpec)) decRoundsUptoCard

/-- THE SECOND FORM's CARD OF 'numerallaw03.DecHalves'. -/
def decHalvesUptoCard : Claim7 := { stood := { row := decHalvesUptoRow, standIns := [], harness := (true, "5feceda79f9b1dc8ca41ace1ba0889a67c7f5eb401c0286d0001a9a2cd280ef1"), looks := true }, kinds := [], alts := [], laidByText := true, laidKinds := [.data, .handle, .pinned], laidTests := true, laidLooks := .later }
def DecHalvesUptoCardSaid : Prop := Claim7.holds Tryd.pinned (.plain (OpenSpec.upto decHalvesSpec)) decHalvesUptoCard

/-- THE SECOND FORM's CARD OF 'numerallaw03.DecOrder'. -/
def decOrderUptoCard : Claim7 := { stood := { row := decOrderUptoRow, standIns := [], harness := (true, "5feceda79f9b1dc8ca41ace1ba0889a67c7f5eb401c0286d0001a9a2cd280ef1"), looks := true }, kinds := [], alts := [], laidByText := true, laidKinds := [.data, .data, .data, .data, .sentinel, .sentinel, .pinned], laidTests := true, laidLooks := .later }
def DecOrderUptoCardSaid : Prop := Claim7.holds Tryd.pinned (.plain (OpenSpec.upto decOrderSpec)) decOrderUptoCard

/-- THE SECOND FORM's CARD OF 'numerallaw04.MeterRuns'. -/
def meterRunsUptoCard : Claim7 := { stood := { row := meterRunsUptoRow, standIns := [], harness := (true, "5feceda79f9b1dc8ca41ace1ba0889a67c7f5eb401c0286d0001a9a2cd280ef1"), looks := true }, kinds := [], alts := [], laidByText := true, laidKinds := [.data, .data, .data], laidTests := true, laidLooks := .later }
def MeterRunsUptoCardSaid : Prop := Claim7.holds Tryd.pinned (.plain (OpenSpec.upto meterRunsSpec)) meterRunsUptoCard
end Rows
end Go.Proofs.YtladeppjccfbhaaDoor
