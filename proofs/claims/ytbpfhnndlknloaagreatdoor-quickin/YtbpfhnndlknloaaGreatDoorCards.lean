/-
  DERIVED. GIVEN WITH THE SEED: THE CARDS: each row of YtbpfhnndlknloaaGreatDoorRows.lean that lists a variable, with what it lists TIED to the program's text (the seventh form; the later family's looks); each row that meets fmt, with fmt's text TOLD by the authors' own Lean function (tested against real Go, not proved from fmt's source: count such statements apart). THE CARD IS WHAT COUNTS. Prove the row's statement (the work); the ties are given (YtbpfhnndlknloaaGreatDoorTie.lean); close each card by the builder's one call (the guide's Derived/Test/ToyasCard.lean, 'card_holds'). Laid BY PROGRAM, IN A SANDBOX (cutbox-door.mjs). By AI agents, Wed Nov 11 2026. No macro, syntax, notation, axiom, sorry.
-/
import Derived.Test.YtbpfhnndlknloaaGreatDoorRows
import GoSem.ClaimSeven
namespace Go.Proofs.YtbpfhnndlknloaaGreatDoor
namespace Rows

/-- THE TIED CARD OF 'numerallaw21.QuickShortest'. -/
def quickShortestCard : Claim7 := { stood := { row := quickShortestRow, standIns := [], harness := (true, "333efae326ae55c50d830deed4e75a7e19ec989c56fb152014596d51280b8248"), looks := true }, kinds := [], alts := [], laidByText := true, laidKinds := [.data, .data, .data, .handle], laidTests := true, laidLooks := .later }
def QuickShortestCardSaid : Prop := Claim7.holds Tryz.pinned (.plain (OpenSpec.ofChange quickShortestSpec)) quickShortestCard

/-- THE TIED CARD OF 'numerallaw21.QuickIn'. -/
def quickInCard : Claim7 := { stood := { row := quickInRow, standIns := [], harness := (true, "333efae326ae55c50d830deed4e75a7e19ec989c56fb152014596d51280b8248"), looks := true }, kinds := [], alts := [], laidByText := true, laidKinds := [.data, .data, .data, .data, .pinned], laidTests := true, laidLooks := .later }
def QuickInCardSaid : Prop := Claim7.holds Tryz.pinned (.plain (OpenSpec.ofChange quickInSpec)) quickInCard

/-- THE SECOND FORM's CARD OF 'numerallaw21.QuickShortest'. -/
def quickShortestUptoCard : Claim7 := { stood := { row := quickShortestUptoRow, standIns := [], harness := (true, "333efae326ae55c50d830deed4e75a7e19ec989c56fb152014596d51280b8248"), looks := true }, kinds := [], alts := [], laidByText := true, laidKinds := [.data, .data, .data, .handle], laidTests := true, laidLooks := .later }
def QuickShortestUptoCardSaid : Prop := Claim7.holds Tryz.pinned (.plain (OpenSpec.upto quickShortestSpec)) quickShortestUptoCard

/-- THE SECOND FORM's CARD OF 'numerallaw21.QuickIn'. -/
def quickInUptoCard : Claim7 := { stood := { row := quickInUptoRow, standIns := [], harness := (true, "333efae326ae55c50d830deed4e75a7e19ec989c56fb152014596d51280b8248"), looks := true }, kinds := [], alts := [], laidByText := true, laidKinds := [.data, .data, .data, .data, .pinned], laidTests := true, laidLooks := .later }
def QuickInUptoCardSaid : Prop := Claim7.holds Tryz.pinned (.plain (OpenSpec.upto quickInSpec)) quickInUptoCard
end Rows
end Go.Proofs.YtbpfhnndlknloaaGreatDoor
