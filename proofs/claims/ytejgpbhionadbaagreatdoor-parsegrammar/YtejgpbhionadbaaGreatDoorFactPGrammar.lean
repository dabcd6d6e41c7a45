/-
  The closed facts of the row of ParseGrammar.
-/
import Derived.Test.YtejgpbhionadbaaGreatDoorRows
import Derived.ProofKit
import Derived.Stop.Joined
namespace Go.Proofs.YtejgpbhionadbaaGreatDoor
open Go.RowKit

theorem pgrammar_named : Tryz.pinned.checked.prog.funcNamed Rows.parseGrammarRow.func = some 4 := by kernel_rfl
theorem pgrammar_facts : joinedFacts Tryz.pinned.checked.prog 4 Tryz.f4 (OpenSpec.ofChange Rows.parseGrammarSpec).bare Rows.parseGrammarRow = true := by kernel_rfl
end Go.Proofs.YtejgpbhionadbaaGreatDoor
