/-
  The closed facts of the row of ParseLists.
-/
import Derived.Test.YtejgpbhionadbaaGreatDoorRows
import Derived.ProofKit
import Derived.Stop.Joined
namespace Go.Proofs.YtejgpbhionadbaaGreatDoor
open Go.RowKit

theorem plists_named : Tryz.pinned.checked.prog.funcNamed Rows.parseListsUptoRow.func = some 3 := by kernel_rfl
theorem plists_facts : joinedFacts Tryz.pinned.checked.prog 3 Tryz.f3 (Rows.OpenSpec.upto Rows.parseListsSpec).bare Rows.parseListsUptoRow = true := by kernel_rfl
end Go.Proofs.YtejgpbhionadbaaGreatDoor
