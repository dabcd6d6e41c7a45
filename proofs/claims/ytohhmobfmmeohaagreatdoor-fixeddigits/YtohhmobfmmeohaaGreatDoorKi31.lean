/-
  Holds: VBtL.
-/
import Derived.Laws.BitsAllLaws
import Derived.Test.YtohhmobfmmeohaaGreatDoorRows
import Derived.WalkKit
import Derived.BigQuiet
import Derived.Deep.RegionHeld3
import Derived.Deep.DeepCutAuto
import Derived.WalkSpells
import Derived.WalkLawsBesides
import Derived.Lib.Mul64
import Derived.Stop.Asserts
import Derived.RowKitTokens
import Derived.Test.YtohhmobfmmeohaaGreatDoorKi0
set_option maxRecDepth 100000
set_option maxHeartbeats 4000000
namespace Go.Proofs.YtohhmobfmmeohaaGreatDoor
open Go.RowKit
theorem toB {P : Program} {f : FuncId} {a : Array Value} {W : World} {x : Ending} (h : Calls P f a W fun e w' => e = x ∧ w' = W) : Calls P f a W fun e w' => e = x ∧ Below W.heap.size W w' :=
 h.mono fun e w' q => ⟨q.1, by rw [q.2]; exact Below.refl _ _⟩
theorem toB' {P : Program} {f : FuncId} {a : Array Value} {x : Ending} (h : ∀ W, Calls P f a W fun e w' => e = x ∧ w' = W) (W : World) : Calls P f a W fun e w' => e = x ∧ Below W.heap.size W w' := toB (h W)
end Go.Proofs.YtohhmobfmmeohaaGreatDoor
