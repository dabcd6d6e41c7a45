/-
  Holds: VDecU.
-/
import Derived.Test.YtblkokjkmbpejaaGreatDoorRows
import Derived.Laws.Externs
import Derived.WalkKit
import Derived.WalkSpells
import Derived.WalkLawsBesides
import Derived.Lib.Mul64
import Derived.Stop.Asserts
import Derived.RowKitTokens
import Derived.Lib.Strings
import Derived.Lib.BufferWrite
import Derived.Deep.OwnRows
import Derived.Deep.RegionHeld3
import Derived.Test.YtblkokjkmbpejaaGreatDoorKf0
set_option maxRecDepth 100000
set_option maxHeartbeats 4000000
namespace Go.Proofs.YtblkokjkmbpejaaGreatDoor
open Go.RowKit
theorem dC:Tryz.prog.underlying 5=some (.int .u8):=by kernel_rfl
theorem bZ:Tryz.prog.underlying 9=some .string:=by kernel_rfl
end Go.Proofs.YtblkokjkmbpejaaGreatDoor
