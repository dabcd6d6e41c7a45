/-
  DERIVED. GIVEN WITH THE SEED: THE CARDS: each row of YtiminkommimgdaaGreatDoorRows.lean that lists a variable, with what it lists TIED to the program's text (the seventh form; the later family's looks); each row that meets fmt, with fmt's text TOLD by the authors' own Lean function (tested against real Go, not proved from fmt's source: count such statements apart). THE CARD IS WHAT COUNTS. Prove the row's statement (the work); the ties are given (YtiminkommimgdaaGreatDoorTie.lean); close each card by the builder's one call (the guide's Derived/Test/ToyasCard.lean, 'card_holds'). Laid BY PROGRAM, IN A SANDBOX (cutbox-door.mjs). By AI agents, Wed Nov 11 2026. No macro, syntax, notation, axiom, sorry.
-/
import Derived.Test.YtiminkommimgdaaGreatDoorRows
import GoSem.ClaimSeven
namespace Go.Proofs.YtiminkommimgdaaGreatDoor
namespace Rows

/-- THE TIED CARD OF 'numerallaw18.ParseReads'. -/
def parseReadsCard : Claim7 := { stood := { row := parseReadsRow, standIns := [], harness := (true, "5d82a5bd23fc7572a519f76d87ddd15ffef7536574289716fa9bffbc055943b3"), looks := true }, kinds := [], alts := [], laidByText := true, laidKinds := [.data, .data, .handle, .pinned], laidTests := true, laidLooks := .later }
def ParseReadsCardSaid : Prop := Claim7.holds Tryz.pinned (.plain (OpenSpec.ofChange parseReadsSpec)) parseReadsCard

/-- THE TIED CARD OF 'numerallaw18.ParseRoads'. -/
def parseRoadsCard : Claim7 := { stood := { row := parseRoadsRow, standIns := [], harness := (true, "5d82a5bd23fc7572a519f76d87ddd15ffef7536574289716fa9bffbc055943b3"), looks := true }, kinds := [], alts := [], laidByText := true, laidKinds := [.data, .data, .handle, .pinned], laidTests := true, laidLooks := .later }
def ParseRoadsCardSaid : Prop := Claim7.holds Tryz.pinned (.plain (OpenSpec.ofChange parseRoadsSpec)) parseRoadsCard

/-- THE TIED CARD OF 'numerallaw18.ParseGrammar'. -/
def parseGrammarCard : Claim7 := { stood := { row := parseGrammarRow, standIns := [], harness := (true, "5d82a5bd23fc7572a519f76d87ddd15ffef7536574289716fa9bffbc055943b3"), looks := true }, kinds := [], alts := [], laidByText := true, laidKinds := [.data, .data, .handle, .pinned], laidTests := true, laidLooks := .later }
def ParseGrammarCardSaid : Prop := Claim7.holds Tryz.pinned (.plain (OpenSpec.ofChange parseGrammarSpec)) parseGrammarCard

/-- THE TIED CARD OF 'numerallaw18.ParseNear'. -/
def parseNearCard : Claim7 := { stood := { row := parseNearRow, standIns := [], harness := (true, "5d82a5bd23fc7572a519f76d87ddd15ffef7536574289716fa9bffbc055943b3"), looks := true }, kinds := [], alts := [], laidByText := true, laidKinds := [.data, .data, .handle, .pinned], laidTests := true, laidLooks := .later }
def ParseNearCardSaid : Prop := Claim7.holds Tryz.pinned (.plain (OpenSpec.ofChange parseNearSpec)) parseNearCard

/-- THE TIED CARD OF 'numerallaw18.ParseExact'. -/
def parseExactCard : Claim7 := { stood := { row := parseExactRow, standIns := [], harness := (true, "5d82a5bd23fc7572a519f76d87ddd15ffef7536574289716fa9bffbc055943b3"), looks := true }, kinds := [], alts := [], laidByText := true, laidKinds := [.data, .data, .handle, .pinned], laidTests := true, laidLooks := .later }
def ParseExactCardSaid : Prop := Claim7.holds Tryz.pinned (.plain (OpenSpec.ofChange parseExactSpec)) parseExactCard

/-- THE SECOND FORM's CARD OF 'numerallaw18.ParseReads'. -/
def parseReadsUptoCard : Claim7 := { stood := { row := parseReadsUptoRow, standIns := [], harness := (true, "5d82a5bd23fc7572a519f76d87ddd15ffef7536574289716fa9bffbc055943b3"), looks := true }, kinds := [], alts := [], laidByText := true, laidKinds := [.data, .data, .handle, .pinned], laidTests := true, laidLooks := .later }
def ParseReadsUptoCardSaid : Prop := Claim7.holds Tryz.pinned (.plain (OpenSpec.upto parseReadsSpec)) parseReadsUptoCard

/-- THE SECOND FORM's CARD OF 'numerallaw18.ParseRoads'. -/
def parseRoadsUptoCard : Claim7 := { stood := { row := parseRoadsUptoRow, standIns := [], harness := (true, "5d82a5bd23fc7572a519f76d87ddd15ffef7536574289716fa9bffbc055943b3"), looks := true }, kinds := [], alts := [], laidByText := true, laidKinds := [.data, .data, .handle, .pinned], laidTests := true, laidLooks := .later }
def ParseRoadsUptoCardSaid : Prop := Claim7.holds Tryz.pinned (.plain (OpenSpec.upto parseRoadsSpec)) parseRoadsUptoCard

/-- THE SECOND FORM's CARD OF 'numerallaw18.ParseGrammar'. -/
def parseGrammarUptoCard : Claim7 := { stood := { row := parseGrammarUptoRow, standIns := [], harness := (true, "5d82a5bd23fc7572a519f76d87ddd15ffef7536574289716fa9bffbc055943b3"), looks := true }, kinds := [], alts := [], laidByText := true, laidKinds := [.data, .data, .handle, .pinned], laidTests := true, laidLooks := .later }
def ParseGrammarUptoCardSaid : Prop := Claim7.holds Tryz.pinned (.plain (OpenSpec.upto parseGrammarSpec)) parseGrammarUptoCard

/-- THE SECOND FORM's CARD OF 'numerallaw18.ParseNear'. -/
def parseNearUptoCard : Claim7 := { stood := { row := parseNearUptoRow, standIns := [], harness := (true, "5d82a5bd23fc7572a519f76d87ddd15ffef7536574289716fa9bffbc055943b3"), looks := true }, kinds := [], alts := [], laidByText := true, laidKinds := [.data, .data, .handle, .pinned], laidTests := true, laidLooks := .later }
def ParseNearUptoCardSaid : Prop := Claim7.holds Tryz.pinned (.plain (OpenSpec.upto parseNearSpec)) parseNearUptoCard

/-- THE SECOND FORM's CARD OF 'numerallaw18.ParseExact'. -/
def parseExactUptoCard : Claim7 := { stood := { row := parseExactUptoRow, standIns := [], harness := (true, "5d82a5bd23fc7572a519f76d87ddd15ffef7536574289716fa9bffbc055943b3"), looks := true }, kinds := [], alts := [], laidByText := true, laidKinds := [.data, .data, .handle, .pinned], laidTests := true, laidLooks := .later }
def ParseExactUptoCardSaid : Prop := Claim7.holds Tryz.pinned (.plain (OpenSpec.upto parseExactSpec)) parseExactUptoCard
end Rows
end Go.Proofs.YtiminkommimgdaaGreatDoor
