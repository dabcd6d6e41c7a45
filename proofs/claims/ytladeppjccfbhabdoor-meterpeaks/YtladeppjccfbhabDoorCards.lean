/-
  DERIVED. GIVEN WITH THE SEED: THE CARDS: each row of YtladeppjccfbhabDoorRows.lean that lists a variable, with what it lists TIED to the program's text (the seventh form; the later family's looks); each row that meets fmt, with fmt's text TOLD by the authors' own Lean function (tested against real Go, not proved from fmt's source: count such statements apart). THE CARD IS WHAT COUNTS. Prove the row's statement (the work); the ties are given (YtladeppjccfbhabDoorTie.lean); close each card by the builder's one call (the guide's Derived/Test/ToyasCard.lean, 'card_holds'). Laid BY PROGRAM, IN A SANDBOX (cutbox-door.mjs). By AI agents, Wed Nov 11 2026. No macro, syntax, notation, axiom, sorry.
-/
import Derived.Test.YtladeppjccfbhabDoorRows
import GoSem.ClaimSeven
namespace Go.Proofs.YtladeppjccfbhabDoor
namespace Rows

/-- THE TIED CARD OF 'numerallaw04.MeterNone'. -/
def meterNoneCard : Claim7 := { stood := { row := meterNoneRow, standIns := [], harness := (true, "a7c3e9f8ef12b68a0c3d455309f682343fc86abf7099412488dd861dc9933fb6"), looks := false }, kinds := [], alts := [], laidByText := true, laidKinds := [.data, .data, .data], laidTests := true, laidLooks := .later }
def MeterNoneCardSaid : Prop := Claim7.holds Tryd.pinned (.plain (OpenSpec.ofChange meterNoneSpec)) meterNoneCard

/-- THE TIED CARD OF 'numerallaw04.MeterPeaks'. -/
def meterPeaksCard : Claim7 := { stood := { row := meterPeaksRow, standIns := [], harness := (true, "a7c3e9f8ef12b68a0c3d455309f682343fc86abf7099412488dd861dc9933fb6"), looks := false }, kinds := [], alts := [], laidByText := true, laidKinds := [.data, .data, .data], laidTests := true, laidLooks := .later }
def MeterPeaksCardSaid : Prop := Claim7.holds Tryd.pinned (.plain (OpenSpec.ofChange meterPeaksSpec)) meterPeaksCard

/-- THE SECOND FORM's CARD OF 'numerallaw04.MeterNone'. -/
def meterNoneUptoCard : Claim7 := { stood := { row := meterNoneUptoRow, standIns := [], harness := (true, "a7c3e9f8ef12b68a0c3d455309f682343fc86abf7099412488dd861dc9933fb6"), looks := false }, kinds := [], alts := [], laidByText := true, laidKinds := [.data, .data, .data], laidTests := true, laidLooks := .later }
def MeterNoneUptoCardSaid : Prop := Claim7.holds Tryd.pinned (.plain (OpenSpec.upto meterNoneSpec)) meterNoneUptoCard

/-- THE SECOND FORM's CARD OF 'numerallaw04.MeterPeaks'. -/
def meterPeaksUptoCard : Claim7 := { stood := { row := meterPeaksUptoRow, standIns := [], harness := (true, "a7c3e9f8ef12b68a0c3d455309f682343fc86abf7099412488dd861dc9933fb6"), looks := false }, kinds := [], alts := [], laidByText := true, laidKinds := [.data, .data, .data], laidTests := true, laidLooks := .later }
def MeterPeaksUptoCardSaid : Prop := Claim7.holds Tryd.pinned (.plain (OpenSpec.upto meterPeaksSpec)) meterPeaksUptoCard
end Rows
end Go.Proofs.YtladeppjccfbhabDoor
