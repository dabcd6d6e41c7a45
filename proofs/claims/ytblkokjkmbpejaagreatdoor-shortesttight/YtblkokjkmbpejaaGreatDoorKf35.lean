/-
  Holds: SoUa.
-/
import Derived.Test.YtblkokjkmbpejaaGreatDoorRows
import Derived.Laws.Externs
import Derived.WalkKit
import Derived.WalkSpells
import Derived.WalkLawsBesides
import Derived.Lib.Mul64
import Derived.Stop.Asserts
import Derived.RowKitTokens
import Derived.Lib.Strings
import Derived.Lib.BufferWrite
import Derived.Deep.OwnRows
import Derived.Deep.RegionHeld3
import Derived.BigQuiet
import Derived.Lib.ConvBytes
import Derived.Laws.CopyOwn
import Derived.Lib.TrailingZeros
import Derived.Lib.ItoaNum
import Derived.Deep.LoopGhost
import Derived.Deep.AppendLies
import Derived.Deep.DeepCutAuto
import Derived.Test.YtblkokjkmbpejaaGreatDoorKf27
set_option maxRecDepth 100000
set_option maxHeartbeats 4000000
namespace Go.Proofs.YtblkokjkmbpejaaGreatDoor
open Go.RowKit
theorem bS {t s:ByteArray}(h:t=⟨#[48]⟩ ++ s):t.size=s.size+1/\∀ i,dgt t i=aP s i:=by
 have e1:(⟨#[48]⟩:ByteArray).size=1:=rfl
 have z:t.size=s.size+1:=by rw [h,ByteArray.size_append,e1];omega
 have q:=(nG (t:=t) (s:=s) (n:=s.size) (by rw [bL];exact h) (Nat.le_refl _)).2
 refine ⟨z,fun i=>?_⟩
 rcases Nat.lt_or_ge i (s.size+1) with c | c
 . exact q i c
 . rw [cG (by omega)]
   unfold aP
   rw [if_neg (by omega),cG (by omega)]
end Go.Proofs.YtblkokjkmbpejaaGreatDoor
