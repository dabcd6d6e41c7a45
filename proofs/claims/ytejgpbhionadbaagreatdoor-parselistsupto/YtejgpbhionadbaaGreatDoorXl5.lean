/-
  Holds: UEx5 UCp5.
-/
import Derived.Laws.BitsAllLaws
import Derived.Test.YtejgpbhionadbaaGreatDoorChecked
import Derived.Lib.ItoaNum
import Derived.Laws.Externs
import Derived.WalkKit
import Derived.WalkSpells
import Derived.WalkLawsBesides
import Derived.Lib.Mul64
import Derived.Lib.TrailingZeros
import Derived.Deep.OwnRows
import Derived.Laws.CopyOwn
import Derived.BigQuiet
import Derived.Deep.RegionHeld3
import Derived.Deep.LoopGhost
import Derived.Deep.AppendLies
import Derived.Deep.DeepCutAuto
import Derived.Stop.Asserts
import Derived.RowKitTokens
import Derived.Lib.Strings
import Derived.Lib.BufferWrite
import Derived.Lib.ConvBytes
import Derived.Test.YtejgpbhionadbaaGreatDoorXl1
set_option maxRecDepth 100000
set_option maxHeartbeats 4000000
namespace Go.Proofs.YtejgpbhionadbaaGreatDoor
open Go.RowKit
def dgt (s:ByteArray) (i:Nat):Nat:=if h:i<s.size then (s[i]'h).toNat else 48
theorem cO {s:ByteArray}{i:Nat}(h:i<s.size):dgt s i=(s[i]'h).toNat:=by unfold dgt;rw [dif_pos h]
theorem aCb {s:ByteArray}{p:Int}{c:Bool}(h:VD s p c) (w:World) :
 Cb 114 #[dcV s p c] w .nilIface:=by
 unfold dcV
 rcases h with ⟨h1,rfl,rfl⟩ | h
 . obtain rfl:=iV h1
   go_enter Tryz.func114,Tryz.ntmps114
   go_wp2
   go_ret
   exact ⟨rfl,bz _ _⟩
 . have p1:=h.pos
   have hE:=aI p1
   have hl1:s.size - 1<s.size:=by omega
   have AD:=fun W=>pU s (by have:=h.len;omega) h.dg W
   have l1:=h.len
   have f1:((((s[0]'p1).toNat:Nat):Int) == 48)=false:=beq_eq_false_iff_ne.mpr (by have:=h.first;omega)
   have n1:((s.size:Int) == 0)=false:=beq_eq_false_iff_ne.mpr (by omega)
   have p2:=h.lo
   have p3:=h.hi
   have p2':¬ p < -1099511627776:=by omega
   have p3':¬ 1099511627776<p:=by omega
   have l2:¬ (800:Int)<(s.size:Int):=by omega
   have ix:((s.size:Int) - 1).toNat=s.size - 1:=by omega
   by_cases g1:(s[s.size - 1]'hl1).toNat=48
   . obtain rfl:c=true:=h.last.resolve_left (fun q=>q g1)
     have g2:((((s[s.size - 1]'hl1).toNat:Nat):Int) == 48)=true:=beq_iff_eq.mpr (by omega)
     clear h g1
     go_enter Tryz.func114,Tryz.ntmps114
     go_wp2_with fail
     refine (AD _).mono ?_
     rintro e w1 ⟨rfl,rfl⟩
     go_wp2
     go_ret
     exact ⟨rfl,bz _ _⟩
   . have g2:((((s[s.size - 1]'hl1).toNat:Nat):Int) == 48)=false:=beq_eq_false_iff_ne.mpr (by omega)
     clear h g1
     go_enter Tryz.func114,Tryz.ntmps114
     go_wp2_with fail
     refine (AD _).mono ?_
     rintro e w1 ⟨rfl,rfl⟩
     go_wp2
     go_ret
     exact ⟨rfl,bz _ _⟩
end Go.Proofs.YtejgpbhionadbaaGreatDoor
