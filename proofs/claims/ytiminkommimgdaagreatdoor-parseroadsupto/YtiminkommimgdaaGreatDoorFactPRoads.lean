/-
  The closed facts of the row of ParseRoads.
-/
import Derived.Test.YtiminkommimgdaaGreatDoorRows
import Derived.ProofKit
import Derived.Stop.Joined
namespace Go.Proofs.YtiminkommimgdaaGreatDoor
open Go.RowKit

theorem proads_named : Tryz.pinned.checked.prog.funcNamed Rows.parseRoadsUptoRow.func = some 4 := by kernel_rfl
theorem proads_facts : joinedFacts Tryz.pinned.checked.prog 4 Tryz.f4 (Rows.OpenSpec.upto Rows.parseRoadsSpec).bare Rows.parseRoadsUptoRow = true := by kernel_rfl
end Go.Proofs.YtiminkommimgdaaGreatDoor
