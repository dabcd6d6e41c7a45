/-
  Holds: UEx5.
-/
import Derived.Laws.BitsAllLaws
import Derived.Test.YtiminkommimgdaaGreatDoorChecked
import Derived.Lib.ItoaNum
import Derived.Laws.Externs
import Derived.WalkKit
import Derived.WalkSpells
import Derived.WalkLawsBesides
import Derived.Lib.Mul64
import Derived.Lib.TrailingZeros
import Derived.Deep.OwnRows
import Derived.Laws.CopyOwn
import Derived.BigQuiet
import Derived.Deep.RegionHeld3
import Derived.Deep.LoopGhost
import Derived.Deep.AppendLies
import Derived.Deep.DeepCutAuto
import Derived.Stop.Asserts
import Derived.RowKitTokens
import Derived.Lib.Strings
import Derived.Lib.BufferWrite
import Derived.Lib.ConvBytes
import Derived.Test.YtiminkommimgdaaGreatDoorW0
set_option maxRecDepth 100000
set_option maxHeartbeats 4000000
namespace Go.Proofs.YtiminkommimgdaaGreatDoor
open Go.RowKit
def dgt (s:ByteArray) (i:Nat):Nat:=if h:i<s.size then (s[i]'h).toNat else 48
theorem dgt_lt {s:ByteArray}{i:Nat}(h:i<s.size):dgt s i=(s[i]'h).toNat:=by unfold dgt;rw [dif_pos h]
end Go.Proofs.YtiminkommimgdaaGreatDoor
