/-
  DERIVED. GIVEN WITH THE SEED: THE CARDS: each row of YthjflphfjemanaaDoorRows.lean that lists a variable, with what it lists TIED to the program's text (the seventh form; the later family's looks); each row that meets fmt, with fmt's text TOLD by the authors' own Lean function (tested against real Go, not proved from fmt's source: count such statements apart). THE CARD IS WHAT COUNTS. Prove the row's statement (the work); the ties are given (YthjflphfjemanaaDoorTie.lean); close each card by the builder's one call (the guide's Derived/Test/ToyasCard.lean, 'card_holds'). Laid BY PROGRAM, IN A SANDBOX (cutbox-door.mjs). By AI agents, Wed Nov 11 2026. No macro, syntax, notation, axiom, sorry.
-/
import Derived.Test.YthjflphfjemanaaDoorRows
import GoSem.ClaimSeven
namespace Go.Proofs.YthjflphfjemanaaDoor
namespace Rows

/-- THE TIED CARD OF 'numerallaw08.IntsTells'. -/
def intsTellsCard : Claim7 := { stood := { row := intsTellsRow, standIns := [], harness := (true, "686fd67889461de7e524303d581333ce4b121f17965721cfdcb68b01aacbc154"), looks := true }, kinds := [], alts := [], laidByText := true, laidKinds := [.handle], laidTests := true, laidLooks := .later }
def IntsTellsCardSaid : Prop := Claim7.holds Tryd.pinned (.plain (OpenSpec.ofChange intsTellsSpec)) intsTellsCard

/-- THE TIED CARD OF 'numerallaw08.IntsMakes'. -/
def intsMakesCard : Claim7 := { stood := { row := intsMakesRow, standIns := [], harness := (true, "686fd67889461de7e524303d581333ce4b121f17965721cfdcb68b01aacbc154"), looks := true }, kinds := [], alts := [], laidByText := true, laidKinds := [.handle], laidTests := true, laidLooks := .later }
def IntsMakesCardSaid : Prop := Claim7.holds Tryd.pinned (.plain (OpenSpec.ofChange intsMakesSpec)) intsMakesCard

/-- THE TIED CARD OF 'numerallaw08.IntsLays'. -/
def intsLaysCard : Claim7 := { stood := { row := intsLaysRow, standIns := [], harness := (true, "686fd67889461de7e524303d581333ce4b121f17965721cfdcb68b01aacbc154"), looks := true }, kinds := [], alts := [], laidByText := true, laidKinds := [.handle], laidTests := true, laidLooks := .later }
def IntsLaysCardSaid : Prop := Claim7.holds Tryd.pinned (.plain (OpenSpec.ofChange intsLaysSpec)) intsLaysCard

/-- THE TIED CARD OF 'numerallaw08.IntsReads'. -/
def intsReadsCard : Claim7 := { stood := { row := intsReadsRow, standIns := [], harness := (true, "686fd67889461de7e524303d581333ce4b121f17965721cfdcb68b01aacbc154"), looks := true }, kinds := [], alts := [], laidByText := true, laidKinds := [.handle], laidTests := true, laidLooks := .later }
def IntsReadsCardSaid : Prop := Claim7.holds Tryd.pinned (.plain (OpenSpec.ofChange intsReadsSpec)) intsReadsCard

/-- THE TIED CARD OF 'numerallaw08.IntsBack'. -/
def intsBackCard : Claim7 := { stood := { row := intsBackRow, standIns := [], harness := (true, "686fd67889461de7e524303d581333ce4b121f17965721cfdcb68b01aacbc154"), looks := true }, kinds := [], alts := [], laidByText := true, laidKinds := [.handle], laidTests := true, laidLooks := .later }
def IntsBackCardSaid : Prop := Claim7.holds Tryd.pinned (.plain (OpenSpec.ofChange intsBackSpec)) intsBackCard

/-- THE TIED CARD OF 'numerallaw08.IntsOne'. -/
def intsOneCard : Claim7 := { stood := { row := intsOneRow, standIns := [], harness := (true, "686fd67889461de7e524303d581333ce4b121f17965721cfdcb68b01aacbc154"), looks := true }, kinds := [], alts := [], laidByText := true, laidKinds := [.handle], laidTests := true, laidLooks := .later }
def IntsOneCardSaid : Prop := Claim7.holds Tryd.pinned (.plain (OpenSpec.ofChange intsOneSpec)) intsOneCard

/-- THE SECOND FORM's CARD OF 'numerallaw08.IntsTells'. -/
def intsTellsUptoCard : Claim7 := { stood := { row := intsTellsUptoRow, standIns := [], harness := (true, "686fd67889461de7e524303d581333ce4b121f17965721cfdcb68b01aacbc154"), looks := true }, kinds := [], alts := [], laidByText := true, laidKinds := [.handle], laidTests := true, laidLooks := .later }
def IntsTellsUptoCardSaid : Prop := Claim7.holds Tryd.pinned (.plain (OpenSpec.upto intsTellsSpec)) intsTellsUptoCard

/-- THE SECOND FORM's CARD OF 'numerallaw08.IntsMakes'. -/
def intsMakesUptoCard : Claim7 := { stood := { row := intsMakesUptoRow, standIns := [], harness := (true, "686fd67889461de7e524303d581333ce4b121f17965721cfdcb68b01aacbc154"), looks := true }, kinds := [], alts := [], laidByText := true, laidKinds := [.handle], laidTests := true, laidLooks := .later }
def IntsMakesUptoCardSaid : Prop := Claim7.holds Tryd.pinned (.plain (OpenSpec.upto intsMakesSpec)) intsMakesUptoCard

/-- THE SECOND FORM's CARD OF 'numerallaw08.IntsLays'. -/
def intsLaysUptoCard : Claim7 := { stood := { row := intsLaysUptoRow, standIns := [], harness := (true, "686fd67889461de7e524303d581333ce4b121f17965721cfdcb68b01aacbc154"), looks := true }, kinds := [], alts := [], laidByText := true, laidKinds := [.handle], laidTests := true, laidLooks := .later }
def IntsLaysUptoCardSaid : Prop := Claim7.holds Tryd.pinned (.plain (OpenSpec.upto intsLaysSpec)) intsLaysUptoCard

/-- THE SECOND FORM's CARD OF 'numerallaw08.IntsReads'. -/
def intsReadsUptoCard : Claim7 := { stood := { row := intsReadsUptoRow, standIns := [], harness := (true, "686fd67889461de7e524303d581333ce4b121f17965721cfdcb68b01aacbc154"), looks := true }, kinds := [], alts := [], laidByText := true, laidKinds := [.handle], laidTests := true, laidLooks := .later }
def IntsReadsUptoCardSaid : Prop := Claim7.holds Tryd.pinned (.plain (OpenSpec.upto intsReadsSpec)) intsReadsUptoCard

/-- THE SECOND FORM's CARD OF 'numerallaw08.IntsBack'. -/
def intsBackUptoCard : Claim7 := { stood := { row := intsBackUptoRow, standIns := [], harness := (true, "686fd67889461de7e524303d581333ce4b121f17965721cfdcb68b01aacbc154"), looks := true }, kinds := [], alts := [], laidByText := true, laidKinds := [.handle], laidTests := true, laidLooks := .later }
def IntsBackUptoCardSaid : Prop := Claim7.holds Tryd.pinned (.plain (OpenSpec.upto intsBackSpec)) intsBackUptoCard

/-- THE SECOND FORM's CARD OF 'numerallaw08.IntsOne'. -/
def intsOneUptoCard : Claim7 := { stood := { row := intsOneUptoRow, standIns := [], harness := (true, "686fd67889461de7e524303d581333ce4b121f17965721cfdcb68b01aacbc154"), looks := true }, kinds := [], alts := [], laidByText := true, laidKinds := [.handle], laidTests := true, laidLooks := .later }
def IntsOneUptoCardSaid : Prop := Claim7.holds Tryd.pinned (.plain (OpenSpec.upto intsOneSpec)) intsOneUptoCard
end Rows
end Go.Proofs.YthjflphfjemanaaDoor
