/-
  NARROWER THAN 'FOR EVERY INPUT', by the rows' own cells (each row's printed sentence says how): UintsFormats: laid · UintsParses: laid · UintsPrefixes: laid.
  DERIVED. THE GIVEN ROWS OF THIS SEAT. 3 by the template 'for every input the law returns true; each argument reads behind the call as it read before'; 0 by the template 'total and deterministic' (their statements: YtbdelacgkpogoaaDoorTotals.lean).
  GIVEN WITH THE SEED: the statements are not yours to turn. If you find one false, say at which input.
  Laid BY PROGRAM, IN A SANDBOX (cutbox-rows.mjs): the forced cells as the released guide's own fill.sh prints them over the translation 7f63b0e518c6902c… (all of the seat's roots in one cut). By AI agents, Wed Nov 11 2026. No macro, syntax, notation, axiom, sorry.
-/
import Derived.Test.YtbdelacgkpogoaaDoorChecked
import GoSem.Claim
import GoSem.ClaimJoined
import GoSem.ClaimMapViews
import Derived.JoinedTies
import Derived.KernelRfl
namespace Go.Proofs.YtbdelacgkpogoaaDoor
/- THE CELL 'sum', in the pinned program and in every row, IS THE sha256 OF THE DUMP (.gsa) THAT YtbdelacgkpogoaaDoorProg.lean LOADS. Nothing in Lean hashes anything: it is a label: what it is worth is what the hold of that sum in a sandbox is worth. -/
noncomputable def Tryd.pinned : Pinned := { name := "ytbdelacgkpogoaadoor", sum := "7f63b0e518c6902c286ccbb1c72e980dae59459e7aea4776389264da98f0cf8a", checked := Tryd.checked }
namespace Rows
def none {H : Type} : Left H := { results := [], args := [] }

/- WHAT THE LISTED PACKAGE-LEVEL VARIABLES READ AS WHEN THE CALL BEGINS. Each datum BY PROGRAM (the guide's laid-datum.mjs) off the statement by which the dump's own 'gosem.cut.vars' lays the variable. In a bare row this is a premise. The card (YtbdelacgkpogoaaDoorCards.lean) ties it to the program's text. -/
def laid_errors_errorType {H : Type} : DataW H := .iface "internal/reflectlite.rtype" (.agg [.ptr (.lit (.string [101, 114, 114, 111, 114]))])

/-- 'numerallaw07.UintsFormats': WHATEVER THE INPUT: true; the input reads as it did. -/
def uintsFormatsSpec : ChangeSpec := { name := "uintsFormats", fn := fun _ => fun
  | [d1, d2, d3] => { results := [.lit (.bool true)], args := [d1, d2, d3] }
  | _ => none }
def uintsFormatsRow : OpenClaim := { program := "ytbdelacgkpogoaadoor", sum := "7f63b0e518c6902c286ccbb1c72e980dae59459e7aea4776389264da98f0cf8a", func := "numeral/numerallaw07.UintsFormats", spec := "uintsFormats", inPlace := ["internal/abi.NoEscape", "internal/bytealg.MakeNoZero", "internal/reflectlite.ValueOf", "(internal/reflectlite.Value).Type", "(internal/reflectlite.Value).IsNil", "internal/reflectlite.TypeOf", "(internal/reflectlite.Value).Elem", "(internal/reflectlite.Value).Set"], unfollowed := true, recurses := true, named := ["errors.errorType"], apart := false, laid := [("errors.errorType", laid_errors_errorType)] }
def UintsFormatsSaid : Prop := uintsFormatsRow.holds Tryd.pinned (OpenSpec.ofChange uintsFormatsSpec)

/-- ITS FALSE NEIGHBOUR: 'it returns false'. Refute it at one input. -/
def uintsFormatsWrong : ChangeSpec := { name := "uintsFormats", fn := fun _ => fun
  | [d1, d2, d3] => { results := [.lit (.bool false)], args := [d1, d2, d3] }
  | _ => none }
def UintsFormatsWrongFalsely : Prop := uintsFormatsRow.holds Tryd.pinned (OpenSpec.ofChange uintsFormatsWrong)

/-- 'numerallaw07.UintsParses': WHATEVER THE INPUT: true; the input reads as it did. -/
def uintsParsesSpec : ChangeSpec := { name := "uintsParses", fn := fun _ => fun
  | [d1, d2] => { results := [.lit (.bool true)], args := [d1, d2] }
  | _ => none }
def uintsParsesRow : OpenClaim := { program := "ytbdelacgkpogoaadoor", sum := "7f63b0e518c6902c286ccbb1c72e980dae59459e7aea4776389264da98f0cf8a", func := "numeral/numerallaw07.UintsParses", spec := "uintsParses", inPlace := ["internal/reflectlite.ValueOf", "(internal/reflectlite.Value).Type", "(internal/reflectlite.Value).IsNil", "internal/reflectlite.TypeOf", "(internal/reflectlite.Value).Elem", "(internal/reflectlite.Value).Set"], unfollowed := true, recurses := true, named := ["errors.errorType"], apart := false, laid := [("errors.errorType", laid_errors_errorType)] }
def UintsParsesSaid : Prop := uintsParsesRow.holds Tryd.pinned (OpenSpec.ofChange uintsParsesSpec)

/-- ITS FALSE NEIGHBOUR: 'it returns false'. Refute it at one input. -/
def uintsParsesWrong : ChangeSpec := { name := "uintsParses", fn := fun _ => fun
  | [d1, d2] => { results := [.lit (.bool false)], args := [d1, d2] }
  | _ => none }
def UintsParsesWrongFalsely : Prop := uintsParsesRow.holds Tryd.pinned (OpenSpec.ofChange uintsParsesWrong)

/-- 'numerallaw07.UintsPrefixes': WHATEVER THE INPUT: true; the input reads as it did. -/
def uintsPrefixesSpec : ChangeSpec := { name := "uintsPrefixes", fn := fun _ => fun
  | [d1, d2] => { results := [.lit (.bool true)], args := [d1, d2] }
  | _ => none }
def uintsPrefixesRow : OpenClaim := { program := "ytbdelacgkpogoaadoor", sum := "7f63b0e518c6902c286ccbb1c72e980dae59459e7aea4776389264da98f0cf8a", func := "numeral/numerallaw07.UintsPrefixes", spec := "uintsPrefixes", inPlace := ["internal/reflectlite.ValueOf", "(internal/reflectlite.Value).Type", "(internal/reflectlite.Value).IsNil", "internal/reflectlite.TypeOf", "(internal/reflectlite.Value).Elem", "(internal/reflectlite.Value).Set"], unfollowed := true, recurses := true, named := ["errors.errorType"], apart := false, laid := [("errors.errorType", laid_errors_errorType)] }
def UintsPrefixesSaid : Prop := uintsPrefixesRow.holds Tryd.pinned (OpenSpec.ofChange uintsPrefixesSpec)

/-- ITS FALSE NEIGHBOUR: 'it returns false'. Refute it at one input. -/
def uintsPrefixesWrong : ChangeSpec := { name := "uintsPrefixes", fn := fun _ => fun
  | [d1, d2] => { results := [.lit (.bool false)], args := [d1, d2] }
  | _ => none }
def UintsPrefixesWrongFalsely : Prop := uintsPrefixesRow.holds Tryd.pinned (OpenSpec.ofChange uintsPrefixesWrong)

/- THE SECOND FORM. 'bulk': how many values and letters a reading holds, each counted each time it is reached (what is shared counts as often as it is met; a slice's spare places count too). A statement '..UptoSaid' is the law's where the arguments, and the package variables that the reading takes, are together of bulk at most 1048576: NARROWER than '..Said'. Prove '..Said' where nothing that the law and all that it calls make is longer than what came in: it says more and counts as full. Else prove '..UptoSaid'. A law counts once. -/
mutual
def uptoBulk {H : Type} : DataW H → Nat
  | .lit (.string bytes) => bytes.length + 1
  | .lit _ => 1
  | .nil => 1
  | .ptr d => uptoBulk d + 1
  | .slice elems spare => uptoBulkAll elems + uptoBulkAll spare + 1
  | .agg parts => uptoBulkAll parts + 1
  | .iface _ d => uptoBulk d + 1
  | .map entries => uptoBulkEntries entries + 1
  | .held _ => 1
def uptoBulkAll {H : Type} : List (DataW H) → Nat
  | [] => 0
  | d :: r => uptoBulk d + uptoBulkAll r
def uptoBulkEntries {H : Type} : List (Lit × DataW H) → Nat
  | [] => 0
  | x :: r => uptoBulkEntry x + uptoBulkEntries r
def uptoBulkEntry {H : Type} : Lit × DataW H → Nat
  | (.string bytes, d) => bytes.length + uptoBulk d + 1
  | (_, d) => uptoBulk d + 1
 end
def uptoSmall : (H : Type) → List (DataW H) → Bool := fun _ ds => decide (uptoBulkAll ds ≤ 1048576)
def OpenSpec.upto (s : _root_.Go.ChangeSpec) : _root_.Go.OpenSpec := { _root_.Go.OpenSpec.ofChange s with cond := some uptoSmall }

/-- 'numerallaw07.UintsFormats', WHERE WHAT IT READS IS OF BULK AT MOST 1048576: true; the input reads as it did. -/
def uintsFormatsUptoRow : OpenClaim := { program := "ytbdelacgkpogoaadoor", sum := "7f63b0e518c6902c286ccbb1c72e980dae59459e7aea4776389264da98f0cf8a", func := "numeral/numerallaw07.UintsFormats", spec := "uintsFormats", inPlace := ["internal/abi.NoEscape", "internal/bytealg.MakeNoZero", "internal/reflectlite.ValueOf", "(internal/reflectlite.Value).Type", "(internal/reflectlite.Value).IsNil", "internal/reflectlite.TypeOf", "(internal/reflectlite.Value).Elem", "(internal/reflectlite.Value).Set"], unfollowed := true, recurses := true, named := ["errors.errorType"], apart := false, laid := [("errors.errorType", laid_errors_errorType)], narrowed := true }
def UintsFormatsUptoSaid : Prop := uintsFormatsUptoRow.holds Tryd.pinned (OpenSpec.upto uintsFormatsSpec)

/-- 'numerallaw07.UintsParses', WHERE WHAT IT READS IS OF BULK AT MOST 1048576: true; the input reads as it did. -/
def uintsParsesUptoRow : OpenClaim := { program := "ytbdelacgkpogoaadoor", sum := "7f63b0e518c6902c286ccbb1c72e980dae59459e7aea4776389264da98f0cf8a", func := "numeral/numerallaw07.UintsParses", spec := "uintsParses", inPlace := ["internal/reflectlite.ValueOf", "(internal/reflectlite.Value).Type", "(internal/reflectlite.Value).IsNil", "internal/reflectlite.TypeOf", "(internal/reflectlite.Value).Elem", "(internal/reflectlite.Value).Set"], unfollowed := true, recurses := true, named := ["errors.errorType"], apart := false, laid := [("errors.errorType", laid_errors_errorType)], narrowed := true }
def UintsParsesUptoSaid : Prop := uintsParsesUptoRow.holds Tryd.pinned (OpenSpec.upto uintsParsesSpec)

/-- 'numerallaw07.UintsPrefixes', WHERE WHAT IT READS IS OF BULK AT MOST 1048576: true; the input reads as it did. -/
def uintsPrefixesUptoRow : OpenClaim := { program := "ytbdelacgkpogoaadoor", sum := "7f63b0e518c6902c286ccbb1c72e980dae59459e7aea4776389264da98f0cf8a", func := "numeral/numerallaw07.UintsPrefixes", spec := "uintsPrefixes", inPlace := ["internal/reflectlite.ValueOf", "(internal/reflectlite.Value).Type", "(internal/reflectlite.Value).IsNil", "internal/reflectlite.TypeOf", "(internal/reflectlite.Value).Elem", "(internal/reflectlite.Value).Set"], unfollowed := true, recurses := true, named := ["errors.errorType"], apart := false, laid := [("errors.errorType", laid_errors_errorType)], narrowed := true }
def UintsPrefixesUptoSaid : Prop := uintsPrefixesUptoRow.holds Tryd.pinned (OpenSpec.upto uintsPrefixesSpec)

end Rows
end Go.Proofs.YtbdelacgkpogoaaDoor
