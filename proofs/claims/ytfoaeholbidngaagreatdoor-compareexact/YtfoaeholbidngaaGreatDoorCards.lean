/-
  DERIVED. GIVEN WITH THE SEED: THE CARDS: each row of YtfoaeholbidngaaGreatDoorRows.lean that lists a variable, with what it lists TIED to the program's text (the seventh form; the later family's looks); each row that meets fmt, with fmt's text TOLD by the authors' own Lean function (tested against real Go, not proved from fmt's source: count such statements apart). THE CARD IS WHAT COUNTS. Prove the row's statement (the work); the ties are given (YtfoaeholbidngaaGreatDoorTie.lean); close each card by the builder's one call (the guide's Derived/Test/ToyasCard.lean, 'card_holds'). Laid BY PROGRAM, IN A SANDBOX (cutbox-door.mjs). By AI agents, Wed Nov 11 2026. No macro, syntax, notation, axiom, sorry.
-/
import Derived.Test.YtfoaeholbidngaaGreatDoorRows
import GoSem.ClaimSeven
namespace Go.Proofs.YtfoaeholbidngaaGreatDoor
namespace Rows

/-- THE TIED CARD OF 'numerallaw16.CompareWith'. -/
def compareWithCard : Claim7 := { stood := { row := compareWithRow, standIns := [], harness := (true, "6a28656d8c29a1b9a057d93dd57c7b5d093059059552f5809cb98302cc2a54aa"), looks := true }, kinds := [], alts := [], laidByText := true, laidKinds := [.data, .data, .pinned], laidTests := true, laidLooks := .later }
def CompareWithCardSaid : Prop := Claim7.holds Tryz.pinned (.plain (OpenSpec.ofChange compareWithSpec)) compareWithCard

/-- THE TIED CARD OF 'numerallaw16.CompareNearest'. -/
def compareNearestCard : Claim7 := { stood := { row := compareNearestRow, standIns := [], harness := (true, "6a28656d8c29a1b9a057d93dd57c7b5d093059059552f5809cb98302cc2a54aa"), looks := true }, kinds := [], alts := [], laidByText := true, laidKinds := [.data, .data, .pinned], laidTests := true, laidLooks := .later }
def CompareNearestCardSaid : Prop := Claim7.holds Tryz.pinned (.plain (OpenSpec.ofChange compareNearestSpec)) compareNearestCard

/-- THE TIED CARD OF 'numerallaw16.CompareCounts'. -/
def compareCountsCard : Claim7 := { stood := { row := compareCountsRow, standIns := [], harness := (true, "6a28656d8c29a1b9a057d93dd57c7b5d093059059552f5809cb98302cc2a54aa"), looks := true }, kinds := [], alts := [], laidByText := true, laidKinds := [.data, .data, .pinned], laidTests := true, laidLooks := .later }
def CompareCountsCardSaid : Prop := Claim7.holds Tryz.pinned (.plain (OpenSpec.ofChange compareCountsSpec)) compareCountsCard

/-- THE TIED CARD OF 'numerallaw16.CompareTight'. -/
def compareTightCard : Claim7 := { stood := { row := compareTightRow, standIns := [], harness := (true, "6a28656d8c29a1b9a057d93dd57c7b5d093059059552f5809cb98302cc2a54aa"), looks := true }, kinds := [], alts := [], laidByText := true, laidKinds := [.data, .data, .pinned], laidTests := true, laidLooks := .later }
def CompareTightCardSaid : Prop := Claim7.holds Tryz.pinned (.plain (OpenSpec.ofChange compareTightSpec)) compareTightCard

/-- THE TIED CARD OF 'numerallaw16.CompareExact'. -/
def compareExactCard : Claim7 := { stood := { row := compareExactRow, standIns := [], harness := (true, "6a28656d8c29a1b9a057d93dd57c7b5d093059059552f5809cb98302cc2a54aa"), looks := true }, kinds := [], alts := [], laidByText := true, laidKinds := [.data, .data, .pinned], laidTests := true, laidLooks := .later }
def CompareExactCardSaid : Prop := Claim7.holds Tryz.pinned (.plain (OpenSpec.ofChange compareExactSpec)) compareExactCard

/-- THE SECOND FORM's CARD OF 'numerallaw16.CompareWith'. -/
def compareWithUptoCard : Claim7 := { stood := { row := compareWithUptoRow, standIns := [], harness := (true, "6a28656d8c29a1b9a057d93dd57c7b5d093059059552f5809cb98302cc2a54aa"), looks := true }, kinds := [], alts := [], laidByText := true, laidKinds := [.data, .data, .pinned], laidTests := true, laidLooks := .later }
def CompareWithUptoCardSaid : Prop := Claim7.holds Tryz.pinned (.plain (OpenSpec.upto compareWithSpec)) compareWithUptoCard

/-- THE SECOND FORM's CARD OF 'numerallaw16.CompareNearest'. -/
def compareNearestUptoCard : Claim7 := { stood := { row := compareNearestUptoRow, standIns := [], harness := (true, "6a28656d8c29a1b9a057d93dd57c7b5d093059059552f5809cb98302cc2a54aa"), looks := true }, kinds := [], alts := [], laidByText := true, laidKinds := [.data, .data, .pinned], laidTests := true, laidLooks := .later }
def CompareNearestUptoCardSaid : Prop := Claim7.holds Tryz.pinned (.plain (OpenSpec.upto compareNearestSpec)) compareNearestUptoCard

/-- THE SECOND FORM's CARD OF 'numerallaw16.CompareCounts'. -/
def compareCountsUptoCard : Claim7 := { stood := { row := compareCountsUptoRow, standIns := [], harness := (true, "6a28656d8c29a1b9a057d93dd57c7b5d093059059552f5809cb98302cc2a54aa"), looks := true }, kinds := [], alts := [], laidByText := true, laidKinds := [.data, .data, .pinned], laidTests := true, laidLooks := .later }
def CompareCountsUptoCardSaid : Prop := Claim7.holds Tryz.pinned (.plain (OpenSpec.upto compareCountsSpec)) compareCountsUptoCard

/-- THE SECOND FORM's CARD OF 'numerallaw16.CompareTight'. -/
def compareTightUptoCard : Claim7 := { stood := { row := compareTightUptoRow, standIns := [], harness := (true, "6a28656d8c29a1b9a057d93dd57c7b5d093059059552f5809cb98302cc2a54aa"), looks := true }, kinds := [], alts := [], laidByText := true, laidKinds := [.data, .data, .pinned], laidTests := true, laidLooks := .later }
def CompareTightUptoCardSaid : Prop := Claim7.holds Tryz.pinned (.plain (OpenSpec.upto compareTightSpec)) compareTightUptoCard

/-- THE SECOND FORM's CARD OF 'numerallaw16.CompareExact'. -/
def compareExactUptoCard : Claim7 := { stood := { row := compareExactUptoRow, standIns := [], harness := (true, "6a28656d8c29a1b9a057d93dd57c7b5d093059059552f5809cb98302cc2a54aa"), looks := true }, kinds := [], alts := [], laidByText := true, laidKinds := [.data, .data, .pinned], laidTests := true, laidLooks := .later }
def CompareExactUptoCardSaid : Prop := Claim7.holds Tryz.pinned (.plain (OpenSpec.upto compareExactSpec)) compareExactUptoCard
end Rows
end Go.Proofs.YtfoaeholbidngaaGreatDoor
