/-
  DERIVED. GIVEN WITH THE SEED: THE CARDS: each row of YteeobndfnkeldaaGreatDoorRows.lean that lists a variable, with what it lists TIED to the program's text (the seventh form; the later family's looks); each row that meets fmt, with fmt's text TOLD by the authors' own Lean function (tested against real Go, not proved from fmt's source: count such statements apart). THE CARD IS WHAT COUNTS. Prove the row's statement (the work); the ties are given (YteeobndfnkeldaaGreatDoorTie.lean); close each card by the builder's one call (the guide's Derived/Test/ToyasCard.lean, 'card_holds'). Laid BY PROGRAM, IN A SANDBOX (cutbox-door.mjs). By AI agents, Wed Nov 11 2026. No macro, syntax, notation, axiom, sorry.
-/
import Derived.Test.YteeobndfnkeldaaGreatDoorRows
import GoSem.ClaimSeven
namespace Go.Proofs.YteeobndfnkeldaaGreatDoor
namespace Rows

/-- THE TIED CARD OF 'numerallaw18.ParseLists'. -/
def parseListsCard : Claim7 := { stood := { row := parseListsRow, standIns := [], harness := (true, "7bc117263a4777ee88875b30415c441daa2ba99e87808f225c24b7e7f7a5af74"), looks := true }, kinds := [], alts := [], laidByText := true, laidKinds := [.data, .data, .handle, .pinned], laidTests := true, laidLooks := .later }
def ParseListsCardSaid : Prop := Claim7.holds Tryz.pinned (.plain (OpenSpec.ofChange parseListsSpec)) parseListsCard

/-- THE TIED CARD OF 'numerallaw18.ParseGrammar'. -/
def parseGrammarCard : Claim7 := { stood := { row := parseGrammarRow, standIns := [], harness := (true, "7bc117263a4777ee88875b30415c441daa2ba99e87808f225c24b7e7f7a5af74"), looks := true }, kinds := [], alts := [], laidByText := true, laidKinds := [.data, .data, .handle, .pinned], laidTests := true, laidLooks := .later }
def ParseGrammarCardSaid : Prop := Claim7.holds Tryz.pinned (.plain (OpenSpec.ofChange parseGrammarSpec)) parseGrammarCard

/-- THE TIED CARD OF 'numerallaw18.ParseNear'. -/
def parseNearCard : Claim7 := { stood := { row := parseNearRow, standIns := [], harness := (true, "7bc117263a4777ee88875b30415c441daa2ba99e87808f225c24b7e7f7a5af74"), looks := true }, kinds := [], alts := [], laidByText := true, laidKinds := [.data, .data, .handle, .pinned], laidTests := true, laidLooks := .later }
def ParseNearCardSaid : Prop := Claim7.holds Tryz.pinned (.plain (OpenSpec.ofChange parseNearSpec)) parseNearCard

/-- THE TIED CARD OF 'numerallaw18.ParseExact'. -/
def parseExactCard : Claim7 := { stood := { row := parseExactRow, standIns := [], harness := (true, "7bc117263a4777ee88875b30415c441daa2ba99e87808f225c24b7e7f7a5af74"), looks := true }, kinds := [], alts := [], laidByText := true, laidKinds := [.data, .data, .handle, .pinned], laidTests := true, laidLooks := .later }
def ParseExactCardSaid : Prop := Claim7.holds Tryz.pinned (.plain (OpenSpec.ofChange parseExactSpec)) parseExactCard

/-- THE SECOND FORM's CARD OF 'numerallaw18.ParseLists'. -/
def parseListsUptoCard : Claim7 := { stood := { row := parseListsUptoRow, standIns := [], harness := (true, "7bc117263a4777ee88875b30415c441daa2ba99e87808f225c24b7e7f7a5af74"), looks := true }, kinds := [], alts := [], laidByText := true, laidKinds := [.data, .data, .handle, .pinned], laidTests := true, laidLooks := .later }
def ParseListsUptoCardSaid : Prop := Claim7.holds Tryz.pinned (.plain (OpenSpec.upto parseListsSpec)) parseListsUptoCard

/-- THE SECOND FORM's CARD OF 'numerallaw18.ParseGrammar'. -/
def parseGrammarUptoCard : Claim7 := { stood := { row := parseGrammarUptoRow, standIns := [], harness := (true, "7bc117263a4777ee88875b30415c441daa2ba99e87808f225c24b7e7f7a5af74"), looks := true }, kinds := [], alts := [], laidByText := true, laidKinds := [.data, .data, .handle, .pinned], laidTests := true, laidLooks := .later }
def ParseGrammarUptoCardSaid : Prop := Claim7.holds Tryz.pinned (.plain (OpenSpec.upto parseGrammarSpec)) parseGrammarUptoCard

/-- THE SECOND FORM's CARD OF 'numerallaw18.ParseNear'. -/
def parseNearUptoCard : Claim7 := { stood := { row := parseNearUptoRow, standIns := [], harness := (true, "7bc117263a4777ee88875b30415c441daa2ba99e87808f225c24b7e7f7a5af74"), looks := true }, kinds := [], alts := [], laidByText := true, laidKinds := [.data, .data, .handle, .pinned], laidTests := true, laidLooks := .later }
def ParseNearUptoCardSaid : Prop := Claim7.holds Tryz.pinned (.plain (OpenSpec.upto parseNearSpec)) parseNearUptoCard

/-- THE SECOND FORM's CARD OF 'numerallaw18.ParseExact'. -/
def parseExactUptoCard : Claim7 := { stood := { row := parseExactUptoRow, standIns := [], harness := (true, "7bc117263a4777ee88875b30415c441daa2ba99e87808f225c24b7e7f7a5af74"), looks := true }, kinds := [], alts := [], laidByText := true, laidKinds := [.data, .data, .handle, .pinned], laidTests := true, laidLooks := .later }
def ParseExactUptoCardSaid : Prop := Claim7.holds Tryz.pinned (.plain (OpenSpec.upto parseExactSpec)) parseExactUptoCard
end Rows
end Go.Proofs.YteeobndfnkeldaaGreatDoor
