/-
  The closed facts of the row of ParseNear.
-/
import Derived.Test.YteeobndfnkeldaaGreatDoorRows
import Derived.ProofKit
import Derived.Stop.Joined
namespace Go.Proofs.YteeobndfnkeldaaGreatDoor
open Go.RowKit

theorem pnear_named : Tryz.pinned.checked.prog.funcNamed Rows.parseNearUptoRow.func = some 5 := by kernel_rfl
theorem pnear_facts : joinedFacts Tryz.pinned.checked.prog 5 Tryz.f5 (Rows.OpenSpec.upto Rows.parseNearSpec).bare Rows.parseNearUptoRow = true := by kernel_rfl
end Go.Proofs.YteeobndfnkeldaaGreatDoor
