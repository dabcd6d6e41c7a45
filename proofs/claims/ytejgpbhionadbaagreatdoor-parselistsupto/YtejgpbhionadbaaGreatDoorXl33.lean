/-
  Holds: UHxM.
-/
import Derived.Test.YtejgpbhionadbaaGreatDoorRows
import Derived.Laws.Externs
import Derived.WalkKit
import Derived.WalkSpells
import Derived.WalkLawsBesides
import Derived.Lib.Mul64
import Derived.Lib.TrailingZeros
import Derived.Lib.ItoaNum
import Derived.Deep.OwnRows
import Derived.Laws.CopyOwn
import Derived.BigQuiet
import Derived.Deep.RegionHeld3
import Derived.Deep.LoopGhost
import Derived.Deep.AppendLies
import Derived.Deep.DeepCutAuto
import Derived.Test.YtejgpbhionadbaaGreatDoorXl3
set_option maxRecDepth 100000
set_option maxHeartbeats 4000000
namespace Go.Proofs.YtejgpbhionadbaaGreatDoor
def hxA (f T:Nat) (L:Int) (m:Nat) (e:Int) (more:Bool):Option (Nat × Bool) :=
 if more=true/\dpD f L m e=0/\(rdA f T L m 1 e more).2=false then none else some (rdA f T L m 1 e more)
def clK (K e:Int):Int:=max (-K) (min e K)
theorem rD {f T:Nat}{L:Int}{d:Nat}{e:Int}{more:Bool}:rdA f T L 0 d e more=(0,false):=by
 unfold rdA
 rw [if_pos rfl]
theorem aLu {f T:Nat}(hf:0<f) (hT:1<=T) {L:Int}(h1:(f:Int)+L+T<=2000) (h2:-1900<=L) {m:Nat}(hm:m<2 ^ 64) {K:Int}(hK:2000<=K) (e:Int) (more:Bool):rdA f T L m 1 (clK K e) more=rdA f T L m 1 e more:=by
 by_cases m0:m=0
 . subst m0
   rw [rD,rD]
 . rcases (by omega:e < -K \/ (-K<=e/\e<=K) \/ K<e) with c | c | c
   . have q:clK K e = -K:=by unfold clK;omega
     rw [q,sS (N:=64) hf hT more (by decide) hm (by omega),sS (N:=64) hf hT more (by decide) hm (by omega)]
   . have q:clK K e=e:=by unfold clK;omega
     rw [q]
   . have q:clK K e=K:=by unfold clK;omega
     rw [q,pK (N:=1) hf hT more m0 (by decide) (by decide) (by omega),pK (N:=1) hf hT more m0 (by decide) (by decide) (by omega)]
theorem aKD {f:Nat}{L:Int}(h2:-1900<=L) (h3:L<=0) {m:Nat}{K:Int}(hK:2000<=K) (e:Int):dpD f L m (clK K e)=0 ↔ dpD f L m e=0:=by
 unfold dpD clK
 omega
theorem aK0 {f T:Nat}(hf:0<f) (hT:1<=T) {L:Int}(h1:(f:Int)+L+T<=2000) (h2:-1900<=L) (h3:L<=0) {m:Nat}(hm:m<2 ^ 64) {K:Int}(hK:2000<=K) (e:Int) (more:Bool):hxA f T L m (clK K e) more=hxA f T L m e more:=by
 unfold hxA
 rw [aLu hf hT h1 h2 hm hK e more]
 simp only [aKD h2 h3 hK]
end Go.Proofs.YtejgpbhionadbaaGreatDoor
