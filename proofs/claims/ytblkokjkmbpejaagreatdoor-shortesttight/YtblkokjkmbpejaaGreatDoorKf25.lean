/-
  Holds: VBtE VBtL.
-/
import Derived.Laws.BitsAllLaws
import Derived.Test.YtblkokjkmbpejaaGreatDoorRows
import Derived.WalkKit
import Derived.BigQuiet
import Derived.Deep.RegionHeld3
import Derived.Deep.DeepCutAuto
import Derived.WalkSpells
import Derived.WalkLawsBesides
import Derived.Lib.Mul64
import Derived.Stop.Asserts
import Derived.RowKitTokens
import Derived.Test.YtblkokjkmbpejaaGreatDoorKf0
set_option maxRecDepth 100000
set_option maxHeartbeats 4000000
namespace Go.Proofs.YtblkokjkmbpejaaGreatDoor
open Go.RowKit
theorem aAs {b s:Int}  (HC:∀ W,Cb 166 #[vU b,vI s] W (.tuple #[vI 1,.nilIface])) (w:World):Cb 141 #[vU b,vI s] w (.tuple #[vU 0,.iface 69 (vI 4)]):=by
 go_enter Tryz.func141,Tryz.ntmps141
 go_wp2_with fail
 refine (HC _).mono ?_
 rintro e w1 ⟨rfl,hb⟩
 have B:Hid (Bl w w1):=hb
 clear hb
 go_wp2
 go_ret2
 exact ⟨rfl,B.out⟩
theorem aB2 {b s:Int}{c:Int}(q1:(c == 4)=false) (q2:(c == 1)=false) (h0:1<=b) (h1:b<18446744073709551616) (HC:∀ W,Cb 166 #[vU b,vI s] W (.tuple #[vI c,.nilIface])) (w:World):Cb 141 #[vU b,vI s] w (.tuple #[vU (b - 1),.nilIface]):=by
 go_enter Tryz.func141,Tryz.ntmps141
 go_wp2_with fail
 refine (HC _).mono ?_
 rintro e w1 ⟨rfl,hb⟩
 have B:Hid (Bl w w1):=hb
 clear hb
 go_wp2
 go_ret2
 exact ⟨rfl,B.out⟩
theorem toB {P:Program}{f:FuncId}{a:Array Value}{W:World}{x:Ending}(h:Calls P f a W fun e w'=>e=x/\w'=W):Calls P f a W fun e w'=>e=x/\Bl W w' :=
 h.mono fun e w' q=>⟨q.1,by rw [q.2];exact Below.refl _ _⟩
theorem eW {P:Program}{f:FuncId}{a:Array Value}{x:Ending}(h:∀ W,Calls P f a W fun e w'=>e=x/\w'=W) (W:World):Calls P f a W fun e w'=>e=x/\Bl W w':=toB (h W)
end Go.Proofs.YtblkokjkmbpejaaGreatDoor
