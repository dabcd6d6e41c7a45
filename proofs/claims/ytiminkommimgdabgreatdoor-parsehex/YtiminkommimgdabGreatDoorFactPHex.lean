/-
  The closed facts of the row of ParseHex.
-/
import Derived.Test.YtiminkommimgdabGreatDoorRows
import Derived.ProofKit
import Derived.Stop.Joined
namespace Go.Proofs.YtiminkommimgdabGreatDoor
open Go.RowKit

theorem phex_named : Tryz.pinned.checked.prog.funcNamed Rows.parseHexRow.func = some 3 := by kernel_rfl
theorem phex_facts : joinedFacts Tryz.pinned.checked.prog 3 Tryz.f3 (OpenSpec.ofChange Rows.parseHexSpec).bare Rows.parseHexRow = true := by kernel_rfl
end Go.Proofs.YtiminkommimgdabGreatDoor
