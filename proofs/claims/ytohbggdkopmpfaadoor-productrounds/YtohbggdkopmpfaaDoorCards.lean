/-
  DERIVED. GIVEN WITH THE SEED: THE CARDS: each row of YtohbggdkopmpfaaDoorRows.lean that lists a variable, with what it lists TIED to the program's text (the seventh form; the later family's looks); each row that meets fmt, with fmt's text TOLD by the authors' own Lean function (tested against real Go, not proved from fmt's source: count such statements apart). THE CARD IS WHAT COUNTS. Prove the row's statement (the work); the ties are given (YtohbggdkopmpfaaDoorTie.lean); close each card by the builder's one call (the guide's Derived/Test/ToyasCard.lean, 'card_holds'). Laid BY PROGRAM, IN A SANDBOX (cutbox-door.mjs). By AI agents, Wed Nov 11 2026. No macro, syntax, notation, axiom, sorry.
-/
import Derived.Test.YtohbggdkopmpfaaDoorRows
import GoSem.ClaimSeven
namespace Go.Proofs.YtohbggdkopmpfaaDoor
namespace Rows

/-- THE TIED CARD OF 'numerallaw15.ProductRounds'. -/
def productRoundsCard : Claim7 := { stood := { row := productRoundsRow, standIns := [], harness := (true, "55c1c3aaa26e4d566f236514f7435052f1c8a32eb06ac733b3993d17008076a0"), looks := false }, kinds := [], alts := [], laidByText := true, laidKinds := [.data], laidTests := true, laidLooks := .later }
def ProductRoundsCardSaid : Prop := Claim7.holds Tryd.pinned (.plain (OpenSpec.ofChange productRoundsSpec)) productRoundsCard

/-- THE TIED CARD OF 'numerallaw15.ProductFew'. -/
def productFewCard : Claim7 := { stood := { row := productFewRow, standIns := [], harness := (true, "55c1c3aaa26e4d566f236514f7435052f1c8a32eb06ac733b3993d17008076a0"), looks := false }, kinds := [], alts := [], laidByText := true, laidKinds := [.data], laidTests := true, laidLooks := .later }
def ProductFewCardSaid : Prop := Claim7.holds Tryd.pinned (.plain (OpenSpec.ofChange productFewSpec)) productFewCard

/-- THE SECOND FORM's CARD OF 'numerallaw15.ProductRounds'. -/
def productRoundsUptoCard : Claim7 := { stood := { row := productRoundsUptoRow, standIns := [], harness := (true, "55c1c3aaa26e4d566f236514f7435052f1c8a32eb06ac733b3993d17008076a0"), looks := false }, kinds := [], alts := [], laidByText := true, laidKinds := [.data], laidTests := true, laidLooks := .later }
def ProductRoundsUptoCardSaid : Prop := Claim7.holds Tryd.pinned (.plain (OpenSpec.upto productRoundsSpec)) productRoundsUptoCard

/-- THE SECOND FORM's CARD OF 'numerallaw15.ProductFew'. -/
def productFewUptoCard : Claim7 := { stood := { row := productFewUptoRow, standIns := [], harness := (true, "55c1c3aaa26e4d566f236514f7435052f1c8a32eb06ac733b3993d17008076a0"), looks := false }, kinds := [], alts := [], laidByText := true, laidKinds := [.data], laidTests := true, laidLooks := .later }
def ProductFewUptoCardSaid : Prop := Claim7.holds Tryd.pinned (.plain (OpenSpec.upto productFewSpec)) productFewUptoCard
end Rows
end Go.Proofs.YtohbggdkopmpfaaDoor
