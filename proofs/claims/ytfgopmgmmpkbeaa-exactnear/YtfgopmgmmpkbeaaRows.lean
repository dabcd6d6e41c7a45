/-
  No cell of these rows narrows 'for every input' (looked for: loops, veiled, ifaces, maps, wideKeys, modest, calm, conditions, laid).
  DERIVED. THE GIVEN ROWS OF THIS SEAT. 3 by the template 'for every input the law returns true; each argument reads behind the call as it read before'; 0 by the template 'total and deterministic' (their statements: YtfgopmgmmpkbeaaTotals.lean).
  GIVEN WITH THE SEED: the statements are not yours to turn. If you find one false, say at which input.
  Laid BY PROGRAM, IN A SANDBOX (cutbox-rows.mjs): the forced cells as the released guide's own fill.sh prints them over the translation 5f2ee305763b2ecf… (all of the seat's roots in one cut). By AI agents, Wed Nov 11 2026. No macro, syntax, notation, axiom, sorry.
-/
import Derived.Test.YtfgopmgmmpkbeaaChecked
import GoSem.Claim
import GoSem.ClaimJoined
import GoSem.ClaimMapViews
import Derived.JoinedTies
import Derived.KernelRfl
namespace Go.Proofs.Ytfgopmgmmpkbeaa
/- THE CELL 'sum', in the pinned program and in every row, IS THE sha256 OF THE DUMP (.gsa) THAT YtfgopmgmmpkbeaaProg.lean LOADS. Nothing in Lean hashes anything: it is a label: what it is worth is what the hold of that sum in a sandbox is worth. -/
noncomputable def Try.pinned : Pinned := { name := "ytfgopmgmmpkbeaa", sum := "5f2ee305763b2ecf47cc1efd03f72cf4fb924790a1a2e08eb7878134071676b1", checked := Try.checked }
namespace Rows
def none {H : Type} : Left H := { results := [], args := [] }

/-- 'numerallaw14.ExactRight': WHATEVER THE INPUT: true; the input reads as it did. -/
def exactRightSpec : ChangeSpec := { name := "exactRight", fn := fun _ => fun
  | [d1, d2, d3] => { results := [.lit (.bool true)], args := [d1, d2, d3] }
  | _ => none }
def exactRightRow : OpenClaim := { program := "ytfgopmgmmpkbeaa", sum := "5f2ee305763b2ecf47cc1efd03f72cf4fb924790a1a2e08eb7878134071676b1", func := "numeral/numerallaw14.ExactRight", spec := "exactRight", inPlace := ["math.Float32bits", "math.Float64bits"], apart := false }
def ExactRightSaid : Prop := exactRightRow.holds Try.pinned (OpenSpec.ofChange exactRightSpec)

/-- ITS FALSE NEIGHBOUR: 'it returns false'. Refute it at one input. -/
def exactRightWrong : ChangeSpec := { name := "exactRight", fn := fun _ => fun
  | [d1, d2, d3] => { results := [.lit (.bool false)], args := [d1, d2, d3] }
  | _ => none }
def ExactRightWrongFalsely : Prop := exactRightRow.holds Try.pinned (OpenSpec.ofChange exactRightWrong)

/-- 'numerallaw14.ExactPowers': WHATEVER THE INPUT: true; the input reads as it did. -/
def exactPowersSpec : ChangeSpec := { name := "exactPowers", fn := fun _ => fun
  | [d1, d2, d3] => { results := [.lit (.bool true)], args := [d1, d2, d3] }
  | _ => none }
def exactPowersRow : OpenClaim := { program := "ytfgopmgmmpkbeaa", sum := "5f2ee305763b2ecf47cc1efd03f72cf4fb924790a1a2e08eb7878134071676b1", func := "numeral/numerallaw14.ExactPowers", spec := "exactPowers", inPlace := ["math.Float32bits", "math.Float64bits"], apart := false }
def ExactPowersSaid : Prop := exactPowersRow.holds Try.pinned (OpenSpec.ofChange exactPowersSpec)

/-- ITS FALSE NEIGHBOUR: 'it returns false'. Refute it at one input. -/
def exactPowersWrong : ChangeSpec := { name := "exactPowers", fn := fun _ => fun
  | [d1, d2, d3] => { results := [.lit (.bool false)], args := [d1, d2, d3] }
  | _ => none }
def ExactPowersWrongFalsely : Prop := exactPowersRow.holds Try.pinned (OpenSpec.ofChange exactPowersWrong)

/-- 'numerallaw14.ExactNear': WHATEVER THE INPUT: true; the input reads as it did. -/
def exactNearSpec : ChangeSpec := { name := "exactNear", fn := fun _ => fun
  | [d1, d2, d3] => { results := [.lit (.bool true)], args := [d1, d2, d3] }
  | _ => none }
def exactNearRow : OpenClaim := { program := "ytfgopmgmmpkbeaa", sum := "5f2ee305763b2ecf47cc1efd03f72cf4fb924790a1a2e08eb7878134071676b1", func := "numeral/numerallaw14.ExactNear", spec := "exactNear", inPlace := ["math.Float32bits", "math.Float64bits"], apart := false }
def ExactNearSaid : Prop := exactNearRow.holds Try.pinned (OpenSpec.ofChange exactNearSpec)

/-- ITS FALSE NEIGHBOUR: 'it returns false'. Refute it at one input. -/
def exactNearWrong : ChangeSpec := { name := "exactNear", fn := fun _ => fun
  | [d1, d2, d3] => { results := [.lit (.bool false)], args := [d1, d2, d3] }
  | _ => none }
def ExactNearWrongFalsely : Prop := exactNearRow.holds Try.pinned (OpenSpec.ofChange exactNearWrong)

/- THE SECOND FORM. 'bulk': how many values and letters a reading holds, each counted each time it is reached (what is shared counts as often as it is met; a slice's spare places count too). A statement '..UptoSaid' is the law's where the arguments, and the package variables that the reading takes, are together of bulk at most 1048576: NARROWER than '..Said'. Prove '..Said' where nothing that the law and all that it calls make is longer than what came in: it says more and counts as full. Else prove '..UptoSaid'. A law counts once. -/
mutual
def uptoBulk {H : Type} : DataW H → Nat
  | .lit (.string bytes) => bytes.length + 1
  | .lit _ => 1
  | .nil => 1
  | .ptr d => uptoBulk d + 1
  | .slice elems spare => uptoBulkAll elems + uptoBulkAll spare + 1
  | .agg parts => uptoBulkAll parts + 1
  | .iface _ d => uptoBulk d + 1
  | .map entries => uptoBulkEntries entries + 1
  | .held _ => 1
def uptoBulkAll {H : Type} : List (DataW H) → Nat
  | [] => 0
  | d :: r => uptoBulk d + uptoBulkAll r
def uptoBulkEntries {H : Type} : List (Lit × DataW H) → Nat
  | [] => 0
  | x :: r => uptoBulkEntry x + uptoBulkEntries r
def uptoBulkEntry {H : Type} : Lit × DataW H → Nat
  | (.string bytes, d) => bytes.length + uptoBulk d + 1
  | (_, d) => uptoBulk d + 1
 end
def uptoSmall : (H : Type) → List (DataW H) → Bool := fun _ ds => decide (uptoBulkAll ds ≤ 1048576)
def OpenSpec.upto (s : _root_.Go.ChangeSpec) : _root_.Go.OpenSpec := { _root_.Go.OpenSpec.ofChange s with cond := some uptoSmall }

/-- 'numerallaw14.ExactRight', WHERE WHAT IT READS IS OF BULK AT MOST 1048576: true; the input reads as it did. -/
def exactRightUptoRow : OpenClaim := { program := "ytfgopmgmmpkbeaa", sum := "5f2ee305763b2ecf47cc1efd03f72cf4fb924790a1a2e08eb7878134071676b1", func := "numeral/numerallaw14.ExactRight", spec := "exactRight", inPlace := ["math.Float32bits", "math.Float64bits"], apart := false, narrowed := true }
def ExactRightUptoSaid : Prop := exactRightUptoRow.holds Try.pinned (OpenSpec.upto exactRightSpec)

/-- 'numerallaw14.ExactPowers', WHERE WHAT IT READS IS OF BULK AT MOST 1048576: true; the input reads as it did. -/
def exactPowersUptoRow : OpenClaim := { program := "ytfgopmgmmpkbeaa", sum := "5f2ee305763b2ecf47cc1efd03f72cf4fb924790a1a2e08eb7878134071676b1", func := "numeral/numerallaw14.ExactPowers", spec := "exactPowers", inPlace := ["math.Float32bits", "math.Float64bits"], apart := false, narrowed := true }
def ExactPowersUptoSaid : Prop := exactPowersUptoRow.holds Try.pinned (OpenSpec.upto exactPowersSpec)

/-- 'numerallaw14.ExactNear', WHERE WHAT IT READS IS OF BULK AT MOST 1048576: true; the input reads as it did. -/
def exactNearUptoRow : OpenClaim := { program := "ytfgopmgmmpkbeaa", sum := "5f2ee305763b2ecf47cc1efd03f72cf4fb924790a1a2e08eb7878134071676b1", func := "numeral/numerallaw14.ExactNear", spec := "exactNear", inPlace := ["math.Float32bits", "math.Float64bits"], apart := false, narrowed := true }
def ExactNearUptoSaid : Prop := exactNearUptoRow.holds Try.pinned (OpenSpec.upto exactNearSpec)

end Rows
end Go.Proofs.Ytfgopmgmmpkbeaa
