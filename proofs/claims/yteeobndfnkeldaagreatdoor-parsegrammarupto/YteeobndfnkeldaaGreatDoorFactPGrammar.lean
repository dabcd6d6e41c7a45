/-
  The closed facts of the row of ParseGrammar.
-/
import Derived.Test.YteeobndfnkeldaaGreatDoorRows
import Derived.ProofKit
import Derived.Stop.Joined
namespace Go.Proofs.YteeobndfnkeldaaGreatDoor
open Go.RowKit

theorem pgrammar_named : Tryz.pinned.checked.prog.funcNamed Rows.parseGrammarUptoRow.func = some 4 := by kernel_rfl
theorem pgrammar_facts : joinedFacts Tryz.pinned.checked.prog 4 Tryz.f4 (Rows.OpenSpec.upto Rows.parseGrammarSpec).bare Rows.parseGrammarUptoRow = true := by kernel_rfl
end Go.Proofs.YteeobndfnkeldaaGreatDoor
