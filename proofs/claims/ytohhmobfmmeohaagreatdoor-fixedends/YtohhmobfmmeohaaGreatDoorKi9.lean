/-
  Holds: VDecU.
-/
import Derived.Test.YtohhmobfmmeohaaGreatDoorRows
import Derived.Laws.Externs
import Derived.WalkKit
import Derived.WalkSpells
import Derived.WalkLawsBesides
import Derived.Lib.Mul64
import Derived.Stop.Asserts
import Derived.RowKitTokens
import Derived.Lib.Strings
import Derived.Lib.BufferWrite
import Derived.Deep.OwnRows
import Derived.Deep.RegionHeld3
import Derived.Test.YtohhmobfmmeohaaGreatDoorKi0
set_option maxRecDepth 100000
set_option maxHeartbeats 4000000
namespace Go.Proofs.YtohhmobfmmeohaaGreatDoor
open Go.RowKit
theorem und_u8b : Tryz.prog.underlying 5 = some (.int .u8) := by kernel_rfl
theorem und_str9b : Tryz.prog.underlying 9 = some .string := by kernel_rfl
end Go.Proofs.YtohhmobfmmeohaaGreatDoor
