/-
  The closed facts of the row of ParseReads.
-/
import Derived.Test.YtiminkommimgdaaGreatDoorRows
import Derived.ProofKit
import Derived.Stop.Joined
namespace Go.Proofs.YtiminkommimgdaaGreatDoor
open Go.RowKit

theorem preads_named : Tryz.pinned.checked.prog.funcNamed Rows.parseReadsUptoRow.func = some 3 := by kernel_rfl
theorem preads_facts : joinedFacts Tryz.pinned.checked.prog 3 Tryz.f3 (Rows.OpenSpec.upto Rows.parseReadsSpec).bare Rows.parseReadsUptoRow = true := by kernel_rfl
end Go.Proofs.YtiminkommimgdaaGreatDoor
