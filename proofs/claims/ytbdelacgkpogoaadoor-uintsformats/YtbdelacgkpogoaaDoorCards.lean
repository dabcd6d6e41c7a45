/-
  DERIVED. GIVEN WITH THE SEED: THE CARDS: each row of YtbdelacgkpogoaaDoorRows.lean that lists a variable, with what it lists TIED to the program's text (the seventh form; the later family's looks); each row that meets fmt, with fmt's text TOLD by the authors' own Lean function (tested against real Go, not proved from fmt's source: count such statements apart). THE CARD IS WHAT COUNTS. Prove the row's statement (the work); the ties are given (YtbdelacgkpogoaaDoorTie.lean); close each card by the builder's one call (the guide's Derived/Test/ToyasCard.lean, 'card_holds'). Laid BY PROGRAM, IN A SANDBOX (cutbox-door.mjs). By AI agents, Wed Nov 11 2026. No macro, syntax, notation, axiom, sorry.
-/
import Derived.Test.YtbdelacgkpogoaaDoorRows
import GoSem.ClaimSeven
namespace Go.Proofs.YtbdelacgkpogoaaDoor
namespace Rows

/-- THE TIED CARD OF 'numerallaw07.UintsFormats'. -/
def uintsFormatsCard : Claim7 := { stood := { row := uintsFormatsRow, standIns := [], harness := (true, "43b90c9f38f8b643ef89eb6a27a7844a01911917774ab00b5f9180b9f45414d2"), looks := true }, kinds := [], alts := [], laidByText := true, laidKinds := [.handle], laidTests := true, laidLooks := .later }
def UintsFormatsCardSaid : Prop := Claim7.holds Tryd.pinned (.plain (OpenSpec.ofChange uintsFormatsSpec)) uintsFormatsCard

/-- THE TIED CARD OF 'numerallaw07.UintsParses'. -/
def uintsParsesCard : Claim7 := { stood := { row := uintsParsesRow, standIns := [], harness := (true, "43b90c9f38f8b643ef89eb6a27a7844a01911917774ab00b5f9180b9f45414d2"), looks := true }, kinds := [], alts := [], laidByText := true, laidKinds := [.handle], laidTests := true, laidLooks := .later }
def UintsParsesCardSaid : Prop := Claim7.holds Tryd.pinned (.plain (OpenSpec.ofChange uintsParsesSpec)) uintsParsesCard

/-- THE TIED CARD OF 'numerallaw07.UintsPrefixes'. -/
def uintsPrefixesCard : Claim7 := { stood := { row := uintsPrefixesRow, standIns := [], harness := (true, "43b90c9f38f8b643ef89eb6a27a7844a01911917774ab00b5f9180b9f45414d2"), looks := true }, kinds := [], alts := [], laidByText := true, laidKinds := [.handle], laidTests := true, laidLooks := .later }
def UintsPrefixesCardSaid : Prop := Claim7.holds Tryd.pinned (.plain (OpenSpec.ofChange uintsPrefixesSpec)) uintsPrefixesCard

/-- THE SECOND FORM's CARD OF 'numerallaw07.UintsFormats'. -/
def uintsFormatsUptoCard : Claim7 := { stood := { row := uintsFormatsUptoRow, standIns := [], harness := (true, "43b90c9f38f8b643ef89eb6a27a7844a01911917774ab00b5f9180b9f45414d2"), looks := true }, kinds := [], alts := [], laidByText := true, laidKinds := [.handle], laidTests := true, laidLooks := .later }
def UintsFormatsUptoCardSaid : Prop := Claim7.holds Tryd.pinned (.plain (OpenSpec.upto uintsFormatsSpec)) uintsFormatsUptoCard

/-- THE SECOND FORM's CARD OF 'numerallaw07.UintsParses'. -/
def uintsParsesUptoCard : Claim7 := { stood := { row := uintsParsesUptoRow, standIns := [], harness := (true, "43b90c9f38f8b643ef89eb6a27a7844a01911917774ab00b5f9180b9f45414d2"), looks := true }, kinds := [], alts := [], laidByText := true, laidKinds := [.handle], laidTests := true, laidLooks := .later }
def UintsParsesUptoCardSaid : Prop := Claim7.holds Tryd.pinned (.plain (OpenSpec.upto uintsParsesSpec)) uintsParsesUptoCard

/-- THE SECOND FORM's CARD OF 'numerallaw07.UintsPrefixes'. -/
def uintsPrefixesUptoCard : Claim7 := { stood := { row := uintsPrefixesUptoRow, standIns := [], harness := (true, "43b90c9f38f8b643ef89eb6a27a7844a01911917774ab00b5f9180b9f45414d2"), looks := true }, kinds := [], alts := [], laidByText := true, laidKinds := [.handle], laidTests := true, laidLooks := .later }
def UintsPrefixesUptoCardSaid : Prop := Claim7.holds Tryd.pinned (.plain (OpenSpec.upto uintsPrefixesSpec)) uintsPrefixesUptoCard
end Rows
end Go.Proofs.YtbdelacgkpogoaaDoor
