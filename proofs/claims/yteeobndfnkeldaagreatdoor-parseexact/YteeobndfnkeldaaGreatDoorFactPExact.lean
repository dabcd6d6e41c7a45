/-
  The closed facts of the row of ParseExact.
-/
import Derived.Test.YteeobndfnkeldaaGreatDoorRows
import Derived.ProofKit
import Derived.Stop.Joined
namespace Go.Proofs.YteeobndfnkeldaaGreatDoor
open Go.RowKit

theorem pexact_named : Tryz.pinned.checked.prog.funcNamed Rows.parseExactRow.func = some 6 := by kernel_rfl
theorem pexact_facts : joinedFacts Tryz.pinned.checked.prog 6 Tryz.f6 (OpenSpec.ofChange Rows.parseExactSpec).bare Rows.parseExactRow = true := by kernel_rfl
end Go.Proofs.YteeobndfnkeldaaGreatDoor
