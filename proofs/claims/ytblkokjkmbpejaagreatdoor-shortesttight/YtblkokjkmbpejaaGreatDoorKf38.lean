/-
  Holds: VEx1 VEx2 VEx3 VEx3b VEx3c VEx4.
-/
import Derived.Laws.BitsAllLaws
import Derived.Test.YtblkokjkmbpejaaGreatDoorChecked
import Derived.Lib.ItoaNum
import Derived.Laws.Externs
import Derived.WalkKit
import Derived.WalkSpells
import Derived.WalkLawsBesides
import Derived.Lib.Mul64
import Derived.Lib.TrailingZeros
import Derived.Deep.OwnRows
import Derived.Laws.CopyOwn
import Derived.BigQuiet
import Derived.Deep.RegionHeld3
import Derived.Deep.LoopGhost
import Derived.Deep.AppendLies
import Derived.Deep.DeepCutAuto
import Derived.Stop.Asserts
import Derived.RowKitTokens
import Derived.Lib.Strings
import Derived.Lib.BufferWrite
import Derived.Lib.ConvBytes
import Derived.Test.YtblkokjkmbpejaaGreatDoorRows
import Derived.Test.YtblkokjkmbpejaaGreatDoorKf16
import Derived.Test.YtblkokjkmbpejaaGreatDoorKf21
import Derived.Test.YtblkokjkmbpejaaGreatDoorKf33
set_option maxRecDepth 100000
set_option maxHeartbeats 4000000
namespace Go.Proofs.YtblkokjkmbpejaaGreatDoor
open Go.RowKit
theorem tH (x:Nat):IntKind.u32.wrap (x:Int)=((x % Big.B:Nat):Int):=by
 rw [IntKind.wrap_u32];unfold Big.B;omega
theorem aEx {x:Nat}(h:x<B):IntKind.u32.wrap ((x:Int) / 4294967296)=((x / Big.B:Nat):Int):=by
 rw [IntKind.wrap_u32];unfold Big.B;unfold B at h;omega
theorem aAr {w:World}{ao:Option Addr}{n c b o:Nat}{f:Nat -> Nat}(S:Big.Sl w ao n c b o f) {bo:Option Addr}{m cb bb ob:Nat}{g:Nat -> Nat}(S':Big.Sl w bo m cb bb ob g) (hn:n<=10000) (hm:m<=10000) :
 Calls Tryz.prog 113 #[.slice ao n c,.slice bo m cb] w fun e w'=>∃ v,e=.returned v/\Big.NatV w' v (Big.V f n+Big.V g m)/\Bl w w':=by
 obtain ⟨i0,hi,hz0,hz1,hz2⟩:=info_parts Big.info_u32
 have HS:Hid (Big.Sl w ao n c b o f):=S
 have HS':Hid (Big.Sl w bo m cb bb ob g):=S'
 clear S S'
 go_enter Tryz.func113,Tryz.ntmps113
 go_wp2
 go_loopw [5,6,7] (fun v cy i wr=>∃ (k x:Nat) (F:Nat -> Nat),cy=vU (x:Int)/\i=vI (k:Int)/\k<=max n m/\x<=1/\Big.Ws F/\wr.ownsRow w.heap.size 175 1 v k (dV .u32 F k)/\Bl w wr/\Big.V F k+x * Big.B ^ k=Big.V (cut f n) k+Big.V (cut g m) k) (fun _ _ i _=>max n m - (intOf i).toNat)
 case atStart=>exact ⟨0,0,fun _=>0,rfl,rfl,Nat.zero_le _,by omega,fun _=>Big.B_pos,World.ownsRow_nil _ _ _ _,Below.refl _ _,rfl⟩
 case round =>
  obtain ⟨k,x,F,rfl,rfl,hk,hx,hF,hown,hbl,hv⟩:=hrel
  have hsz:=hbl.size
  have st:=Big.sum_step (x:=cut f n k) (y:=cut g m k) hv
  have HV:Hid (Big.V F k+x * Big.B ^ k=Big.V (cut f n) k+Big.V (cut g m) k):=hv
  have bf:=HS.out.ws k
  have bg:=HS'.out.ws k
  unfold Big.B at bf bg
  clear hv
  by_cases c1:k<n <;> by_cases c2:k<m
  . skip
    rw [aV c1,aV c2] at st
    obtain rfl:=HS.out.addr (by omega)
    have hc:=(HS.out.below hbl).cell k c1
    obtain rfl:=HS'.out.addr (by omega)
    have hc':=(HS'.out.below hbl).cell k c2
    have e1:IntKind.u32.wrap ((x:Int)+(f k:Int)+(g k:Int))=(((f k+g k+x) % Big.B:Nat):Int):=by rw [IntKind.wrap_u32];unfold Big.B;omega
    have e2:((x:Int)+(f k:Int)+(g k:Int)) / 4294967296=(((f k+g k+x) / Big.B:Nat):Int):=by unfold Big.B;omega
    have hr:(f k+g k+x) % Big.B<Big.B:=Nat.mod_lt _ Big.B_pos
    have hq:(f k+g k+x) / Big.B<=1:=by unfold Big.B;omega
    have HST:=(show Hid _ from st)
    clear st
    generalize (f k+g k+x) % Big.B=r at *
    generalize (f k+g k+x) / Big.B=q at *
    go_wp2_with (first
     | (at_builtin;refine wpList_append_own _ rfl _ _ 116 rfl w.heap.size 175 i0 (.int .u32 0) 1 4 Big.und_big hi hz0 hz1 hz2 rfl (by decide) _ _ _ rfl (hown.alloc _) ⟨wr.heap.size,0,none⟩ 1 1 [.int .u32 (r:Int)] rfl rfl (World.news_of_block (cs:=#[.int .u32 (r:Int)]) (t:=175) (fr:=(0,0)) (heap_alloc_new wr _)) (by simp [Value.oneCell']) (by unfold maxLen;omega) (by omega) (by rw [World.size_alloc];omega) ?_)
     | go_in)
    intro v' w3 hown' hgrow hnil
    have hb3:Bl w w3:=(hbl.alloc (by omega) _).grown hgrow (by rw [World.size_alloc];omega) (fun q hq=>(hown.lt q hq).1)
    have HO3:Hid (w3.ownsRow w.heap.size 175 1 v' (k+1) (dV .u32 (Big.put F k r) (k+1))/\Bl w w3):=⟨by rw [bH];exact hown',hb3⟩
    clear hown' hb3 hgrow hnil hown hbl
    go_wp2
    go_roundw
    case rel =>
     refine ⟨k+1,q,Big.put F k r,rfl,by go_num,by omega,hq,Big.put_Ws hF hr,HO3.out.1,HO3.out.2,?_⟩
     rw [bG,Big.V_succ,Big.V_succ,Nat.pow_succ,aV c1,aV c2]
     exact HST.out
    case measure=>simp [intOf];omega
  . skip
    rw [aV c1,bN c2] at st
    obtain rfl:=HS.out.addr (by omega)
    have hc:=(HS.out.below hbl).cell k c1
    have e1:IntKind.u32.wrap ((x:Int)+(f k:Int))=(((f k+0+x) % Big.B:Nat):Int):=by rw [IntKind.wrap_u32];unfold Big.B;omega
    have e2:((x:Int)+(f k:Int)) / 4294967296=(((f k+0+x) / Big.B:Nat):Int):=by unfold Big.B;omega
    have hr:(f k+0+x) % Big.B<Big.B:=Nat.mod_lt _ Big.B_pos
    have hq:(f k+0+x) / Big.B<=1:=by unfold Big.B;omega
    have HST:=(show Hid _ from st)
    clear st
    generalize (f k+0+x) % Big.B=r at *
    generalize (f k+0+x) / Big.B=q at *
    go_wp2_with (first
     | (at_builtin;refine wpList_append_own _ rfl _ _ 116 rfl w.heap.size 175 i0 (.int .u32 0) 1 4 Big.und_big hi hz0 hz1 hz2 rfl (by decide) _ _ _ rfl (hown.alloc _) ⟨wr.heap.size,0,none⟩ 1 1 [.int .u32 (r:Int)] rfl rfl (World.news_of_block (cs:=#[.int .u32 (r:Int)]) (t:=175) (fr:=(0,0)) (heap_alloc_new wr _)) (by simp [Value.oneCell']) (by unfold maxLen;omega) (by omega) (by rw [World.size_alloc];omega) ?_)
     | go_in)
    intro v' w3 hown' hgrow hnil
    have hb3:Bl w w3:=(hbl.alloc (by omega) _).grown hgrow (by rw [World.size_alloc];omega) (fun q hq=>(hown.lt q hq).1)
    have HO3:Hid (w3.ownsRow w.heap.size 175 1 v' (k+1) (dV .u32 (Big.put F k r) (k+1))/\Bl w w3):=⟨by rw [bH];exact hown',hb3⟩
    clear hown' hb3 hgrow hnil hown hbl
    go_wp2
    go_roundw
    case rel =>
     refine ⟨k+1,q,Big.put F k r,rfl,by go_num,by omega,hq,Big.put_Ws hF hr,HO3.out.1,HO3.out.2,?_⟩
     rw [bG,Big.V_succ,Big.V_succ,Nat.pow_succ,aV c1,bN c2]
     exact HST.out
    case measure=>simp [intOf];omega
  . skip
    rw [bN c1,aV c2] at st
    obtain rfl:=HS'.out.addr (by omega)
    have hc':=(HS'.out.below hbl).cell k c2
    have e1:IntKind.u32.wrap ((x:Int)+(g k:Int))=(((0+g k+x) % Big.B:Nat):Int):=by rw [IntKind.wrap_u32];unfold Big.B;omega
    have e2:((x:Int)+(g k:Int)) / 4294967296=(((0+g k+x) / Big.B:Nat):Int):=by unfold Big.B;omega
    have hr:(0+g k+x) % Big.B<Big.B:=Nat.mod_lt _ Big.B_pos
    have hq:(0+g k+x) / Big.B<=1:=by unfold Big.B;omega
    have HST:=(show Hid _ from st)
    clear st
    generalize (0+g k+x) % Big.B=r at *
    generalize (0+g k+x) / Big.B=q at *
    go_wp2_with (first
     | (at_builtin;refine wpList_append_own _ rfl _ _ 116 rfl w.heap.size 175 i0 (.int .u32 0) 1 4 Big.und_big hi hz0 hz1 hz2 rfl (by decide) _ _ _ rfl (hown.alloc _) ⟨wr.heap.size,0,none⟩ 1 1 [.int .u32 (r:Int)] rfl rfl (World.news_of_block (cs:=#[.int .u32 (r:Int)]) (t:=175) (fr:=(0,0)) (heap_alloc_new wr _)) (by simp [Value.oneCell']) (by unfold maxLen;omega) (by omega) (by rw [World.size_alloc];omega) ?_)
     | go_in)
    intro v' w3 hown' hgrow hnil
    have hb3:Bl w w3:=(hbl.alloc (by omega) _).grown hgrow (by rw [World.size_alloc];omega) (fun q hq=>(hown.lt q hq).1)
    have HO3:Hid (w3.ownsRow w.heap.size 175 1 v' (k+1) (dV .u32 (Big.put F k r) (k+1))/\Bl w w3):=⟨by rw [bH];exact hown',hb3⟩
    clear hown' hb3 hgrow hnil hown hbl
    go_wp2
    go_roundw
    case rel =>
     refine ⟨k+1,q,Big.put F k r,rfl,by go_num,by omega,hq,Big.put_Ws hF hr,HO3.out.1,HO3.out.2,?_⟩
     rw [bG,Big.V_succ,Big.V_succ,Nat.pow_succ,bN c1,aV c2]
     exact HST.out
    case measure=>simp [intOf];omega
  . skip
    have e1:IntKind.u32.wrap (x:Int)=(x:Int):=by rw [IntKind.wrap_u32];omega
    have HE:Hid (Big.V (Big.put F k x) (k+1)=Big.V f n+Big.V g m):=by
     show _=_
     rw [bG,HV.out,jY (by omega),jY (by omega)]
    have hw:Big.Ws (Big.put F k x):=Big.put_Ws hF (by unfold Big.B;omega)
    clear st
    go_wp2_with (first
     | (at_builtin;refine wpList_append_own _ rfl _ _ 116 rfl w.heap.size 175 i0 (.int .u32 0) 1 4 Big.und_big hi hz0 hz1 hz2 rfl (by decide) _ _ _ rfl (hown.alloc _) ⟨wr.heap.size,0,none⟩ 1 1 [.int .u32 (x:Int)] rfl rfl (World.news_of_block (cs:=#[.int .u32 (x:Int)]) (t:=175) (fr:=(0,0)) (heap_alloc_new wr _)) (by simp [Value.oneCell']) (by unfold maxLen;omega) (by omega) (by rw [World.size_alloc];omega) ?_)
     | go_in)
    intro v' w3 hown' hgrow hnil
    have hb3:Bl w w3:=(hbl.alloc (by omega) _).grown hgrow (by rw [World.size_alloc];omega) (fun q hq=>(hown.lt q hq).1)
    rw [<- bH] at hown'
    obtain ⟨ao',c',b',rfl,S3,_⟩:=Big.own_sl hown' hw
    have T:=Big.trim_any S3
    have NV:=S3.trimmed
    rw [HE.out] at NV
    clear hown' hgrow hnil hown hbl
    go_wp2_with fail
    refine T.mono ?_
    rintro e wa ⟨rfl,rfl⟩
    go_wp2
    go_ret
    exact ⟨_,rfl,NV,hb3⟩
theorem jT {w:World}{va vb:Value}{X Y:Nat}(ha:Big.NatV w va X) (hb:Big.NatV w vb Y) (hX:Fits 1000 X) (hY:Fits 1000 Y) :
 Calls Tryz.prog 113 #[va,vb] w fun e w'=>∃ v,e=.returned v/\Big.NatV w' v (X+Y)/\Bl w w':=by
 obtain ⟨ao,n,c,b,o,f,rfl,S,t,rfl⟩:=ha
 obtain ⟨bo,m,cb,bb,ob,g,rfl,S',t',rfl⟩:=hb
 have:=bB t hX
 have:=bB t' hY
 exact aAr S S' (by omega) (by omega)
theorem wP {w:World}{ao:Option Addr}{n c b o:Nat}{f:Nat -> Nat}(S:Big.Sl w ao n c b o f) {bo:Option Addr}{m cb bb ob:Nat}{g:Nat -> Nat}(S':Big.Sl w bo m cb bb ob g) (hn:n<=10000) (hmn:m<=n) (hle:Big.V g m<=Big.V f n) :
 Calls Tryz.prog 137 #[.slice ao n c,.slice bo m cb] w fun e w'=>∃ v,e=.returned v/\Big.NewV w' w.heap.size v (Big.V f n - Big.V g m)/\Bl w w':=by
 obtain ⟨i0,hi,hz0,hz1,hz2⟩:=info_parts Big.info_u32
 have HS:Hid (Big.Sl w ao n c b o f):=S
 have HS':Hid (Big.Sl w bo m cb bb ob g):=S'
 have HLE:Hid (Big.V g m<=Big.V f n):=hle
 clear S S' hle
 go_enter Tryz.func137,Tryz.ntmps137
 go_wp2
 go_loopw [5,6,7] (fun v cy i wr=>∃ (k x:Nat) (F:Nat -> Nat),cy=vI (x:Int)/\i=vI (k:Int)/\k<=n/\x<=1/\Big.Ws F/\wr.ownsRow w.heap.size 175 1 v k (dV .u32 F k)/\Bl w wr/\Big.V F k+Big.V (cut g m) k=Big.V f k+x * Big.B ^ k) (fun _ _ i _=>n - (intOf i).toNat)
 case atStart=>exact ⟨0,0,fun _=>0,rfl,rfl,Nat.zero_le _,by omega,fun _=>Big.B_pos,World.ownsRow_nil _ _ _ _,Below.refl _ _,rfl⟩
 case round =>
  obtain ⟨k,x,F,rfl,rfl,hk,hx,hF,hown,hbl,hv⟩:=hrel
  have hsz:=hbl.size
  have HV:Hid (Big.V F k+Big.V (cut g m) k=Big.V f k+x * Big.B ^ k):=hv
  have bf:=HS.out.ws k
  have bg:=HS'.out.ws k
  unfold Big.B at bf bg
  clear hv
  by_cases c1:k<n
  . obtain rfl:=HS.out.addr (by omega)
    have hc:=(HS.out.below hbl).cell k c1
    by_cases c2:k<m
    . by_cases c3:f k<g k+x
      . skip
        obtain rfl:=HS'.out.addr (by omega)
        have hc':=(HS'.out.below hbl).cell k c2
        obtain ⟨r,hr⟩:∃ r:Nat,r=f k+4294967296 - g k - x:=⟨_,rfl⟩
        have st:=Big.sub_step (y:=g k) (x:=f k) (l:=r) (d:=1) (β:=Big.B) HV.out (by unfold Big.B;omega)
        have hrB:r<Big.B:=by unfold Big.B;omega
        have e1:IntKind.u32.wrap ((f k:Int) - (x:Int) - (g k:Int)+4294967296)=(r:Int):=by rw [IntKind.wrap_u32];omega
        have hlt:(f k:Int) - (x:Int) - (g k:Int)<0:=by omega
        have HST:=(show Hid _ from st)
        clear st hr
        go_wp2_with (first
         | (at_builtin;refine wpList_append_own _ rfl _ _ 116 rfl w.heap.size 175 i0 (.int .u32 0) 1 4 Big.und_big hi hz0 hz1 hz2 rfl (by decide) _ _ _ rfl (hown.alloc _) ⟨wr.heap.size,0,none⟩ 1 1 [.int .u32 (r:Int)] rfl rfl (World.news_of_block (cs:=#[.int .u32 (r:Int)]) (t:=175) (fr:=(0,0)) (heap_alloc_new wr _)) (by simp [Value.oneCell']) (by unfold maxLen;omega) (by omega) (by rw [World.size_alloc];omega) ?_)
         | go_in)
        intro v' w3 hown' hgrow hnil
        have hb3:Bl w w3:=(hbl.alloc (by omega) _).grown hgrow (by rw [World.size_alloc];omega) (fun q hq=>(hown.lt q hq).1)
        have HO3:Hid (w3.ownsRow w.heap.size 175 1 v' (k+1) (dV .u32 (Big.put F k r) (k+1))/\Bl w w3):=⟨by rw [bH];exact hown',hb3⟩
        clear hown' hb3 hgrow hnil hown hbl
        go_wp2
        go_roundw
        case rel =>
         refine ⟨k+1,1,Big.put F k r,rfl,by go_num,by omega,by omega,Big.put_Ws hF hrB,HO3.out.1,HO3.out.2,?_⟩
         rw [bG,Big.V_succ,Big.V_succ,Nat.pow_succ,aV c2]
         exact HST.out
        case measure=>simp [intOf];omega
      . skip
        obtain rfl:=HS'.out.addr (by omega)
        have hc':=(HS'.out.below hbl).cell k c2
        obtain ⟨r,hr⟩:∃ r:Nat,r=f k - g k - x:=⟨_,rfl⟩
        have st:=Big.sub_step (y:=g k) (x:=f k) (l:=r) (d:=0) (β:=Big.B) HV.out (by unfold Big.B;omega)
        have hrB:r<Big.B:=by unfold Big.B;omega
        have e1:IntKind.u32.wrap ((f k:Int) - (x:Int) - (g k:Int))=(r:Int):=by rw [IntKind.wrap_u32];omega
        have hlt:¬ (f k:Int) - (x:Int) - (g k:Int)<0:=by omega
        have HST:=(show Hid _ from st)
        clear st hr
        go_wp2_with (first
         | (at_builtin;refine wpList_append_own _ rfl _ _ 116 rfl w.heap.size 175 i0 (.int .u32 0) 1 4 Big.und_big hi hz0 hz1 hz2 rfl (by decide) _ _ _ rfl (hown.alloc _) ⟨wr.heap.size,0,none⟩ 1 1 [.int .u32 (r:Int)] rfl rfl (World.news_of_block (cs:=#[.int .u32 (r:Int)]) (t:=175) (fr:=(0,0)) (heap_alloc_new wr _)) (by simp [Value.oneCell']) (by unfold maxLen;omega) (by omega) (by rw [World.size_alloc];omega) ?_)
         | go_in)
        intro v' w3 hown' hgrow hnil
        have hb3:Bl w w3:=(hbl.alloc (by omega) _).grown hgrow (by rw [World.size_alloc];omega) (fun q hq=>(hown.lt q hq).1)
        have HO3:Hid (w3.ownsRow w.heap.size 175 1 v' (k+1) (dV .u32 (Big.put F k r) (k+1))/\Bl w w3):=⟨by rw [bH];exact hown',hb3⟩
        clear hown' hb3 hgrow hnil hown hbl
        go_wp2
        go_roundw
        case rel =>
         refine ⟨k+1,0,Big.put F k r,rfl,by go_num,by omega,by omega,Big.put_Ws hF hrB,HO3.out.1,HO3.out.2,?_⟩
         rw [bG,Big.V_succ,Big.V_succ,Nat.pow_succ,aV c2]
         exact HST.out
        case measure=>simp [intOf];omega
    . by_cases c3:f k<x
      . skip
        obtain ⟨r,hr⟩:∃ r:Nat,r=f k+4294967296 - 0 - x:=⟨_,rfl⟩
        have st:=Big.sub_step (y:=0) (x:=f k) (l:=r) (d:=1) (β:=Big.B) HV.out (by unfold Big.B;omega)
        have hrB:r<Big.B:=by unfold Big.B;omega
        have e1:IntKind.u32.wrap ((f k:Int) - (x:Int)+4294967296)=(r:Int):=by rw [IntKind.wrap_u32];omega
        have hlt:(f k:Int) - (x:Int)<0:=by omega
        have HST:=(show Hid _ from st)
        clear st hr
        go_wp2_with (first
         | (at_builtin;refine wpList_append_own _ rfl _ _ 116 rfl w.heap.size 175 i0 (.int .u32 0) 1 4 Big.und_big hi hz0 hz1 hz2 rfl (by decide) _ _ _ rfl (hown.alloc _) ⟨wr.heap.size,0,none⟩ 1 1 [.int .u32 (r:Int)] rfl rfl (World.news_of_block (cs:=#[.int .u32 (r:Int)]) (t:=175) (fr:=(0,0)) (heap_alloc_new wr _)) (by simp [Value.oneCell']) (by unfold maxLen;omega) (by omega) (by rw [World.size_alloc];omega) ?_)
         | go_in)
        intro v' w3 hown' hgrow hnil
        have hb3:Bl w w3:=(hbl.alloc (by omega) _).grown hgrow (by rw [World.size_alloc];omega) (fun q hq=>(hown.lt q hq).1)
        have HO3:Hid (w3.ownsRow w.heap.size 175 1 v' (k+1) (dV .u32 (Big.put F k r) (k+1))/\Bl w w3):=⟨by rw [bH];exact hown',hb3⟩
        clear hown' hb3 hgrow hnil hown hbl
        go_wp2
        go_roundw
        case rel =>
         refine ⟨k+1,1,Big.put F k r,rfl,by go_num,by omega,by omega,Big.put_Ws hF hrB,HO3.out.1,HO3.out.2,?_⟩
         rw [bG,Big.V_succ,Big.V_succ,Nat.pow_succ,bN c2]
         exact HST.out
        case measure=>simp [intOf];omega
      . skip
        obtain ⟨r,hr⟩:∃ r:Nat,r=f k - 0 - x:=⟨_,rfl⟩
        have st:=Big.sub_step (y:=0) (x:=f k) (l:=r) (d:=0) (β:=Big.B) HV.out (by unfold Big.B;omega)
        have hrB:r<Big.B:=by unfold Big.B;omega
        have e1:IntKind.u32.wrap ((f k:Int) - (x:Int))=(r:Int):=by rw [IntKind.wrap_u32];omega
        have hlt:¬ (f k:Int) - (x:Int)<0:=by omega
        have HST:=(show Hid _ from st)
        clear st hr
        go_wp2_with (first
         | (at_builtin;refine wpList_append_own _ rfl _ _ 116 rfl w.heap.size 175 i0 (.int .u32 0) 1 4 Big.und_big hi hz0 hz1 hz2 rfl (by decide) _ _ _ rfl (hown.alloc _) ⟨wr.heap.size,0,none⟩ 1 1 [.int .u32 (r:Int)] rfl rfl (World.news_of_block (cs:=#[.int .u32 (r:Int)]) (t:=175) (fr:=(0,0)) (heap_alloc_new wr _)) (by simp [Value.oneCell']) (by unfold maxLen;omega) (by omega) (by rw [World.size_alloc];omega) ?_)
         | go_in)
        intro v' w3 hown' hgrow hnil
        have hb3:Bl w w3:=(hbl.alloc (by omega) _).grown hgrow (by rw [World.size_alloc];omega) (fun q hq=>(hown.lt q hq).1)
        have HO3:Hid (w3.ownsRow w.heap.size 175 1 v' (k+1) (dV .u32 (Big.put F k r) (k+1))/\Bl w w3):=⟨by rw [bH];exact hown',hb3⟩
        clear hown' hb3 hgrow hnil hown hbl
        go_wp2
        go_roundw
        case rel =>
         refine ⟨k+1,0,Big.put F k r,rfl,by go_num,by omega,by omega,Big.put_Ws hF hrB,HO3.out.1,HO3.out.2,?_⟩
         rw [bG,Big.V_succ,Big.V_succ,Nat.pow_succ,bN c2]
         exact HST.out
        case measure=>simp [intOf];omega
  . obtain rfl:k=n:=by omega
    have HE:Hid (Big.V F k=Big.V f k - Big.V g m):=by
     show _=_
     have a:=HV.out
     have b:=HLE.out
     have l1:=Big.V_lt hF k
     rw [jY (by omega)] at a
     rcases (by omega:x=0 \/ x=1) with rfl | rfl
     . omega
     . omega
    obtain ⟨ao',c',b',rfl,S3,hnw⟩:=Big.own_sl hown hF
    have T:=Big.trim_any S3
    have NV:=S3.trimmedN hnw
    rw [HE.out] at NV
    clear hown hnw
    go_wp2_with fail
    refine T.mono ?_
    rintro e wa ⟨rfl,rfl⟩
    go_wp2
    go_ret
    exact ⟨_,rfl,NV,hbl⟩
theorem wQ {w:World}{va vb:Value}{X Y:Nat}(ha:Big.NatV w va X) (hb:Big.NatV w vb Y) (hX:Fits 1000 X) (hle:Y<=X) :
 Calls Tryz.prog 137 #[va,vb] w fun e w'=>∃ v,e=.returned v/\Big.NewV w' w.heap.size v (X - Y)/\Bl w w':=by
 obtain ⟨ao,n,c,b,o,f,rfl,S,t,rfl⟩:=ha
 obtain ⟨bo,m,cb,bb,ob,g,rfl,S',t',rfl⟩:=hb
 have:=bB t hX
 exact wP S S' (by omega) (sH S.ws t' hle) hle
theorem yW {w:World}{ao:Option Addr}{n c b o:Nat}{f:Nat -> Nat}(S:Big.Sl w ao n c b o f) {ao':Option Addr}{n' c' b' o':Nat}{f':Nat -> Nat}(S':Big.Sl w ao' n' c' b' o' f') (t:Big.Top f n) (t':Big.Top f' n') :
 Cb 111 #[.slice ao n c,.slice ao' n' c'] w (vI (ord (Big.V f n) (Big.V f' n'))):=by
 have hn:n<=maxLen:=Nat.le_trans S.le S.cap
 have hn':n'<=maxLen:=Nat.le_trans S'.le S'.cap
 unfold maxLen at hn hn'
 rcases Nat.lt_trichotomy n n' with d | d | d
 . have e:=oH (Big.len_lt S.ws t' d)
   rw [e]
   have d1:((n:Int) == (n':Int))=false:=beq_eq_false_iff_ne.mpr (by omega)
   clear e
   go_enter Tryz.func111,Tryz.ntmps111
   go_wp2
   go_ret
   exact ⟨rfl,Below.refl _ _⟩
 . subst d
   have HS:Hid (Big.Sl w ao n c b o f):=S
   have HS':Hid (Big.Sl w ao' n c' b' o' f'):=S'
   clear S S' t t'
   go_enter Tryz.func111,Tryz.ntmps111
   go_wp2
   go_loopw [5] (fun i wr=>∃ k:Nat,i=vI ((k:Int) - 1)/\k<=n/\Bl w wr/\∀ j,k<=j -> j<n -> f j=f' j) (fun i _=>(intOf i+1).toNat)
   case atStart=>exact ⟨n,rfl,Nat.le_refl _,Below.refl _ _,fun j a b=>absurd a (by omega)⟩
   case round =>
    obtain ⟨k,rfl,hk,al,heq⟩:=hrel
    have HA:Hid (Bl w wr):=al
    have HE:Hid (∀ j,k<=j -> j<n -> f j=f' j):=heq
    clear heq
    by_cases c1:0<k
    . obtain rfl:=HS.out.addr (by omega)
      obtain rfl:=HS'.out.addr (by omega)
      have hc:=(HS.out.below al).cell (k - 1) (by omega)
      have hc':=(HS'.out.below al).cell (k - 1) (by omega)
      clear al
      have ix:((k:Int) - 1).toNat=k - 1:=by omega
      rcases Nat.lt_trichotomy (f (k - 1)) (f' (k - 1)) with q | q | q
      . have r:=oH (Big.V_lt_at HS.out.ws q (n:=n) (by omega) (fun j a b=>HE.out j (by omega) b))
        have HR:Hid (ord (Big.V f n) (Big.V f' n) = -1):=r
        have q2:((f (k - 1):Nat):Int)<((f' (k - 1):Nat):Int):=by omega
        clear r q
        go_wp2
        go_region
        all_goals
         go_wp2
         go_ret
         exact ⟨by rw [HR.out];rfl,HA.out.drew⟩
      . have q1:¬ ((f (k - 1):Nat):Int)<((f' (k - 1):Nat):Int):=by omega
        have q2:¬ ((f' (k - 1):Nat):Int)<((f (k - 1):Nat):Int):=by omega
        have HQ:Hid (f (k - 1)=f' (k - 1)):=q
        clear q
        go_wp2
        go_region
        all_goals
         go_wp2
         go_region
         all_goals
          go_wp2
          go_roundw
          case rel =>
           refine ⟨k - 1,by go_num,by omega,HA.out.drew.drew,fun j a b=>?_⟩
           by_cases z:j=k - 1
           . rw [z];exact HQ.out
           . exact HE.out j (by omega) b
          case measure=>simp [intOf];omega
      . have r:=wY (Big.V_lt_at HS'.out.ws q (n:=n) (by omega) (fun j a b=>(HE.out j (by omega) b).symm))
        have HR:Hid (ord (Big.V f n) (Big.V f' n)=1):=r
        have q1:¬ ((f (k - 1):Nat):Int)<((f' (k - 1):Nat):Int):=by omega
        have q2:((f' (k - 1):Nat):Int)<((f (k - 1):Nat):Int):=by omega
        clear r q
        go_wp2
        go_region
        all_goals
         go_wp2
         go_region
         all_goals
          go_wp2
          go_ret
          exact ⟨by rw [HR.out];rfl,HA.out.drew.drew⟩
    . obtain rfl:k=0:=by omega
      have HR:Hid (ord (Big.V f n) (Big.V f' n)=0):=aDb (Big.V_congr fun i hi=>HE.out i (Nat.zero_le _) hi)
      clear HE c1
      go_wp2
      go_ret
      exact ⟨by rw [HR.out];rfl,HA.out⟩
 . have e:=wY (Big.len_lt S'.ws t d)
   rw [e]
   have d1:((n:Int) == (n':Int))=false:=beq_eq_false_iff_ne.mpr (by omega)
   clear e
   go_enter Tryz.func111,Tryz.ntmps111
   go_wp2
   go_ret
   exact ⟨rfl,Below.refl _ _⟩
theorem gD {w:World}{va vb:Value}{X Y:Nat}(ha:Big.NatV w va X) (hb:Big.NatV w vb Y) :
 Cb 111 #[va,vb] w (vI (ord X Y)):=by
 obtain ⟨ao,n,c,b,o,f,rfl,S,t,rfl⟩:=ha
 obtain ⟨bo,m,cb,bb,ob,g,rfl,S',t',rfl⟩:=hb
 exact yW S S' t t'
theorem rA {x y:Nat}(hx:x<Big.B) (hy:y<Big.B):bits .or .u64 (x:Int) ((y:Int) * 4294967296)=((x+y * Big.B:Nat):Int):=by
 have e:=uH (x:=y) (z:=x) (p:=32) (by omega) hx
 have w:IntKind.u64.wrap ((y:Int) * 2 ^ 32)=(y:Int) * 4294967296:=by
  rw [IntKind.wrap_u64];unfold Big.B at hy;omega
 rw [w] at e
 rw [e]
 unfold Big.B B at *
 omega
theorem aDG {X i:Nat}(h:X<2 ^ i):tb X i=false:=rT (by rw [Nat.div_eq_of_lt h];decide)
def dg (Y k:Nat):Nat:=Y / Big.B ^ k % Big.B
theorem aD2 (Y:Nat):Big.Ws (dg Y):=fun _=>Nat.mod_lt _ Big.B_pos
theorem aCK (Y:Nat):∀ m,Big.V (dg Y) m=Y % Big.B ^ m
 | 0=>by rw [Nat.pow_zero,Nat.mod_one];rfl
 | m+1=>by rw [Big.V_succ,aCK Y m,Nat.mod_pow_succ,Nat.mul_comm];rfl
theorem vO {x d H p t:Nat}(hp:0<p) (e:d=t * p):(x+d * d * H) / p % d=x / p % d:=by
 have e2:d * d * H=p * (d * (t * H)):=by rw [show d * d=d * (t * p) by rw [<- e]];grind
 rw [e2,Nat.add_mul_div_left _ _ hp,Nat.add_mul_mod_self_left]
theorem aBs {f:Nat -> Nat}(hf:Big.Ws f) {n q p k:Nat}(hq:q+k<n) (hp:p<32) :
 dg (Big.V f n / 2 ^ (32 * q+p)) k=(f (q+k)+cut f n (q+k+1) * Big.B) / 2 ^ p % Big.B:=by
 unfold dg
 have e1:Big.V f n / 2 ^ (32 * q+p) / Big.B ^ k=Big.V f n / Big.B ^ (q+k) / 2 ^ p:=by
  rw [Nat.div_div_eq_div_mul,Nat.div_div_eq_div_mul,Nat.pow_add,Nat.pow_add,<- cH]
  congr 1
  generalize Big.B ^ q=a
  generalize Big.B ^ k=b
  generalize 2 ^ p=c
  grind
 rw [e1]
 obtain ⟨H,h⟩:=mT hf hq
 have hc:Big.V f n / Big.B ^ (q+k)=f (q+k)+cut f n (q+k+1) * Big.B+Big.B * Big.B * (H / Big.B):=by
  by_cases c:q+k+1<n
  . obtain ⟨H2,h2⟩:=mT hf c
    have hh:H=f (q+k+1)+Big.B * H2:=by
     have a:=congrArg (· / Big.B) h
     have b:=Nat.add_mul_div_left (f (q+k)) H Big.B_pos
     rw [Nat.div_eq_of_lt (hf _),Nat.zero_add] at b
     simp only [b] at a
     rw [Nat.div_div_eq_div_mul,<- Nat.pow_succ,h2] at a
     exact a.symm
    have hd:H / Big.B=H2:=by rw [hh,Nat.add_mul_div_left _ _ Big.B_pos,Nat.div_eq_of_lt (hf _),Nat.zero_add]
    have cc:cut f n (q+k+1)=f (q+k+1):=by unfold cut;rw [if_pos c]
    rw [h,hd,cc,hh]
    generalize Big.B=d
    grind
  . have cc:cut f n (q+k+1)=0:=by unfold cut;rw [if_neg c]
    have hl:Big.V f n / Big.B ^ (q+k)<Big.B:=by
     rw [Nat.div_lt_iff_lt_mul (Big.Bp_pos _),<- Nat.pow_succ',show (q+k).succ=n by omega]
     exact Big.V_lt hf n
    have h0:H=0:=by
     rcases Nat.eq_zero_or_pos H with z | z
     . exact z
     . have:=Nat.mul_le_mul_left Big.B z
       rw [h] at hl
       omega
    rw [h,h0,cc,Nat.zero_div]
    omega
 rw [hc]
 refine vO (t:=2 ^ (32 - p)) (Nat.pow_pos (by omega)) ?_
 rw [iN,<- Nat.pow_add,show 32 - p+p=32 by omega]
theorem vP {f:Nat -> Nat}(hf:Big.Ws f) {n q p:Nat}(hq:q<n):Big.V f n / 2 ^ (32 * q+p)<Big.B ^ (n - q):=by
 rw [Nat.pow_add,<- cH,<- Nat.div_div_eq_div_mul]
 refine Nat.lt_of_le_of_lt (Nat.div_le_self _ _) ?_
 rw [Nat.div_lt_iff_lt_mul (Big.Bp_pos _),<- Nat.pow_add,show n - q+q=n by omega]
 exact Big.V_lt hf n
theorem tG {w:World}{ao:Option Addr}{n c b o:Nat}{f:Nat -> Nat}(S:Big.Sl w ao n c b o f) (t:Big.Top f n) (hn:n<=10000) :
 Cs 107 #[.slice ao n c] w (vI (bl (Big.V f n):Int)):=by
 by_cases h0:n=0
 . subst h0
   have e:bl (Big.V f 0)=0:=rfl
   rw [e]
   clear e
   go_enter Tryz.func107,Tryz.ntmps107
   go_wp2
   go_ret
   exact ⟨rfl,rfl⟩
 . obtain ⟨k,rfl⟩:∃ k,n=k+1:=⟨n - 1,by omega⟩
   have ht:f k ≠ 0:=by
    have:=t.resolve_left h0
    rwa [Nat.add_sub_cancel] at this
   obtain rfl:=S.addr (by omega)
   have hc:=S.cell k (by omega)
   have hz:(((k+1:Nat):Int) == 0)=false:=beq_eq_false_iff_ne.mpr (by omega)
   have hb:=S.ws k
   have HW:Hid (Big.Ws f):=S.ws
   generalize hf:f k=x at *
   have HF:Hid (f k=x):=hf
   unfold Big.B at hb
   have ix:((k+1:Nat):Int) - 1=(k:Int):=by omega
   clear t hf S
   simp only [Int.natCast_add,Int.natCast_one] at hz
   go_enter Tryz.func107,Tryz.ntmps107
   go_wp2
   go_loop [3,4] (fun m y=>∃ j z:Nat,m=vI ((32 * k+j:Nat):Int)/\y=.int .u32 (z:Int)/\Hid (z=x / 2 ^ j)/\j<=32/\z<4294967296/\(j=0 \/ 2 ^ (j - 1)<=x)) (fun _ y=>(intOf y).toNat)
   case atStart=>exact ⟨0,x,by go_num,rfl,by show x=x / 2 ^ 0;rw [Nat.pow_zero,Nat.div_one],by omega,hb,Or.inl rfl⟩
   case round =>
    obtain ⟨j,z,rfl,rfl,HZ,hj,hzb,hlow⟩:=hrel
    have HL:Hid (j=0 \/ 2 ^ (j - 1)<=x):=hlow
    clear hlow
    by_cases c1:0<z
    . have hle:2 ^ j<=x:=by
       rcases Nat.lt_or_ge x (2 ^ j) with q | q
       . have:=HZ.out;rw [Nat.div_eq_of_lt q] at this;omega
       . exact q
      have hj32:j<32:=by
       rcases Nat.lt_or_ge j 32 with q | q
       . exact q
       . have:2 ^ 32<=2 ^ j:=Nat.pow_le_pow_right (by omega) q
         omega
      have HH:Hid (2 ^ j<=x/\z / 2=x / 2 ^ (j+1)):=⟨hle,by rw [HZ.out];exact wB⟩
      clear hle
      go_wp2
      go_round
      case rel=>exact ⟨j+1,z / 2,by go_num,by go_num,HH.out.2,by omega,by omega,Or.inr HH.out.1⟩
      case measure=>simp [intOf];omega
    . obtain rfl:z=0:=by omega
      have HR:Hid (bl (Big.V f (k+1))=32 * k+j):=by
       show _=_
       have hx2:x<2 ^ j:=by
        rcases Nat.lt_or_ge x (2 ^ j) with q | q
        . exact q
        . have a:=Nat.div_le_div_right (c:=2 ^ j) q
          rw [Nat.div_self (Nat.pow_pos (by omega)),<- HZ.out] at a
          omega
       rcases HL.out with q | q
       . subst q;rw [Nat.pow_zero] at hx2;omega
       . obtain ⟨i,rfl⟩:∃ i,j=i+1:=by
          rcases j with _ | i
          . rw [Nat.pow_zero] at hx2;omega
          . exact ⟨i,rfl⟩
         rw [Nat.add_sub_cancel] at q
         exact aCE HW.out (by rw [HF.out];exact q) (by rw [HF.out];exact hx2)
      clear HZ
      go_wp2
      go_ret
      exact ⟨by rw [HR.out];rfl,rfl⟩
theorem eA {w:World}{va:Value}{X:Nat}(ha:Big.NatV w va X) (hX:Fits 1000 X) :
 Cs 107 #[va] w (vI (bl X:Int)):=by
 obtain ⟨ao,n,c,b,o,f,rfl,S,t,rfl⟩:=ha
 have:=bB t hX
 exact tG S t (by omega)
theorem uX (a b:Nat) (ha:a<4294967296) (hb:b<4294967296):bits .or .u32 (a:Int) (b:Int)=((a ||| b:Nat):Int):=by
 have h1:(BitVec.ofInt 32 (a:Int)).toNat=a:=by
  rw [BitVec.ofInt_natCast,BitVec.toNat_ofNat];exact Nat.mod_eq_of_lt (by omega)
 have h2:(BitVec.ofInt 32 (b:Int)).toNat=b:=by
  rw [BitVec.ofInt_natCast,BitVec.toNat_ofNat];exact Nat.mod_eq_of_lt (by omega)
 show IntKind.u32.wrap ((BitVec.ofInt 32 (a:Int) ||| BitVec.ofInt 32 (b:Int)).toNat:Int)=_
 rw [BitVec.toNat_or,h1,h2,IntKind.wrap_u32]
 have:=Nat.or_lt_two_pow (n:=32) (x:=a) (y:=b) (by omega) (by omega)
 omega
theorem uP (a:Nat) (ha:a<4294967296):bits .and .u32 (a:Int) 1=((a % 2:Nat):Int):=by
 have h1:(BitVec.ofInt 32 (a:Int)).toNat=a:=by
  rw [BitVec.ofInt_natCast,BitVec.toNat_ofNat];exact Nat.mod_eq_of_lt (by omega)
 show IntKind.u32.wrap ((BitVec.ofInt 32 (a:Int) &&& BitVec.ofInt 32 (1:Int)).toNat:Int)=_
 rw [BitVec.toNat_and,h1,show (BitVec.ofInt 32 (1:Int)).toNat=1 by decide,Nat.and_one_is_mod,IntKind.wrap_u32]
 omega
theorem aBk {w:World}{va:Value}{X:Nat}(ha:Big.NatV w va X) (hX:Fits 1000 X) (i:Nat) (hi:i<9223372036854775808) :
 Cs 112 #[va,vI (i:Int)] w (.bool (tb X i)):=by
 obtain ⟨ao,n,c,b,o,f,rfl,S,t,rfl⟩:=ha
 have hn:=bB t hX
 by_cases c1:i<32 * n
 . obtain ⟨q,p,hqp,hp⟩:∃ q p,i=32 * q+p/\p<32:=⟨i / 32,i % 32,by omega,by omega⟩
   have hq:q<n:=by omega
   obtain rfl:=S.addr (by omega)
   have hc:=S.cell q hq
   have hb:=S.ws q
   have e:=uW S.ws hq hp
   rw [<- hqp] at e
   have d1:(i:Int) / 32=(q:Int):=by omega
   have d2:(i:Int) % 32=(p:Int):=by omega
   have d3:(i:Int).tdiv 32=(q:Int):=by rw [Int.tdiv_eq_ediv_of_nonneg (by omega)];exact d1
   have d4:(i:Int).tmod 32=(p:Int):=by rw [Int.tmod_eq_emod_of_nonneg (by omega)];exact d2
   have sh:((f q:Nat):Int) / 2 ^ p=((f q / 2 ^ p:Nat):Int):=by rw [Int.natCast_ediv];simp
   have hy:f q / 2 ^ p<4294967296:=by
    have:=Nat.div_le_self (f q) (2 ^ p)
    unfold Big.B at hb
    omega
   generalize hY:f q / 2 ^ p=y at *
   have an:=uP y hy
   have HE:Hid (Big.V f n / 2 ^ i % 2=y % 2):=e
   have hc1:(i:Int)<32 * (n:Int):=by omega
   clear e S t hX hY hqp
   by_cases c2:y % 2=1
   . rw [c2] at an
     rw [aDH (by rw [HE.out];exact c2)]
     clear c2
     go_enter Tryz.func112,Tryz.ntmps112
     go_wp2
     go_ret
     exact ⟨rfl,rfl⟩
   . have c3:y % 2=0:=by omega
     rw [c3] at an
     rw [rT (by rw [HE.out];exact c2)]
     clear c2 c3
     go_enter Tryz.func112,Tryz.ntmps112
     go_wp2
     go_ret
     exact ⟨rfl,rfl⟩
 . have hV:=Big.V_lt S.ws n
   rw [cH] at hV
   have hV2:Big.V f n<2 ^ i:=Nat.lt_of_lt_of_le hV (Nat.pow_le_pow_right (by omega) (by omega))
   rw [aDG hV2]
   have hc1:¬ (i:Int)<32 * (n:Int):=by omega
   clear hV hV2 S t hX
   go_enter Tryz.func112,Tryz.ntmps112
   go_wp2
   go_ret
   exact ⟨rfl,rfl⟩
theorem aBO (q:Nat):(madeCells #[.int .u32 0] q).toList=dV .u32 (fun _=>0) q:=by
 apply List.ext_getElem?
 intro i
 by_cases h:i<q
 . rw [jZ h];simp [madeCells,h,Nat.mod_one]
 . simp [madeCells,dV,h]
theorem aEl {x z p:Nat}(hx:x<Big.B) (hp:p<32) (hz:z<2 ^ p):bits .or .u64 (z:Int) (IntKind.u64.wrap ((x:Int) * 2 ^ p))=((x * 2 ^ p+z:Nat):Int)/\x * 2 ^ p+z<B:=by
 have e:=uH (x:=x) (z:=z) (p:=p) (by omega) hz
 have h1:x * 2 ^ p+z<B:=by
  have a:(x+1) * 2 ^ p<=Big.B * 2 ^ p:=Nat.mul_le_mul_right _ hx
  have b:Big.B * 2 ^ p<=Big.B * Big.B:=Nat.mul_le_mul_left _ (by rw [iN];exact Nat.pow_le_pow_right (by omega) (by omega))
  rw [<- BB] at b
  rw [Nat.add_mul,Nat.one_mul] at a
  omega
 rw [Nat.mod_eq_of_lt (by omega)] at e
 exact ⟨e,h1⟩
theorem aDO {w:World}{ao:Option Addr}{n c b o:Nat}{f:Nat -> Nat}(S:Big.Sl w ao n c b o f) (h0:0<n) (hn:n<=1000) (s q p:Nat) (hsq:s=32 * q+p) (hp:p<32) (hq:q<=1000) :
 Calls Tryz.prog 109 #[.slice ao n c,vI (s:Int)] w fun e w'=>∃ v,e=.returned v/\Big.NewV w' w.heap.size v (Big.V f n * 2 ^ s)/\Bl w w':=by
 obtain ⟨i0,hi,hz0,hz1,hz2⟩:=info_parts Big.info_u32
 have hmk:=run_make_row' (P:=Tryz.prog) 116 175 (.int .u32 0) 4 Big.und_big Big.info_u32 rfl .i64 .i64 q (by omega) (by omega)
 have HS:Hid (Big.Sl w ao n c b o f):=S
 obtain rfl:=S.addr h0
 have hz:((n:Int) == 0)=false:=beq_eq_false_iff_ne.mpr (by omega)
 have d1:(s:Int) / 32=(q:Int):=by omega
 have d2:(s:Int) % 32=(p:Int):=by omega
 have d3:(s:Int).tdiv 32=(q:Int):=by rw [Int.tdiv_eq_ediv_of_nonneg (by omega)];exact d1
 have d4:(s:Int).tmod 32=(p:Int):=by rw [Int.tmod_eq_emod_of_nonneg (by omega)];exact d2
 have hs:s<=33000:=by omega
 have HQ:Hid (s=32 * q+p):=hsq
 clear S hsq
 go_enter Tryz.func109,Tryz.ntmps109
 go_wp2
 go_loopw [5,6,7] (fun v cy i wr=>∃ (k z:Nat) (F:Nat -> Nat),cy=vU (z:Int)/\i=vI (k:Int)/\k<=n/\Hid (z<2 ^ p)/\z<4294967296/\Big.Ws F/\wr.ownsRow w.heap.size 175 1 v (q+k) (dV .u32 F (q+k))/\Bl w wr/\Hid (Big.V F (q+k)+z * Big.B ^ (q+k)=Big.V f k * 2 ^ s)) (fun _ _ i _=>n - (intOf i).toNat)
 case atStart =>
  refine ⟨0,0,fun _=>0,rfl,rfl,Nat.zero_le _,(Nat.pow_pos (by omega):0<2 ^ p),by omega,fun _=>Big.B_pos,?_,bz _ _,?_⟩
  . have q1:=World.ownsRow_lit (base:=w.heap.size) (e:=175) (size:=1) w (madeCells #[.int .u32 0] q) q (Nat.le_refl _) (by unfold maxLen;omega) (by simp [madeCells])
    rw [aBO] at q1
    exact q1
  . show Big.V (fun _=>0) (q+0)+0 * _=Big.V f 0 * _
    rw [Big.V_nought,Big.V_zero];omega
 case round =>
  obtain ⟨k,z,F,rfl,rfl,hk,HZ,hz2',hF,hown,hbl,HV⟩:=hrel
  have hsz:=hbl.size
  by_cases c1:k<n
  . have hc:=(HS.out.below hbl).cell k c1
    have hxB:=HS.out.ws k
    obtain ⟨o1,o2⟩:=aEl hxB hp HZ.out
    unfold Big.B at hxB
    have dm:=Nat.div_add_mod (f k * 2 ^ p+z) Big.B
    have HST:Hid (Big.V F (q+k)+(f k * 2 ^ p+z) % Big.B * Big.B ^ (q+k)+(f k * 2 ^ p+z) / Big.B * (Big.B ^ (q+k) * Big.B)=Big.V f (k+1) * 2 ^ s):=by
     show _=_
     have g:=rW (P:=Big.B ^ (q+k)) HV.out dm
     rw [g,Big.V_succ,Nat.add_mul,HQ.out,cH,cH]
     congr 1
     rw [Nat.mul_assoc (f k),<- Nat.pow_add,<- Nat.pow_add]
     congr 2
     omega
    have hqz:Hid ((f k * 2 ^ p+z) / Big.B<2 ^ p):=by
     show _<_
     rw [Nat.div_lt_iff_lt_mul Big.B_pos]
     have a:(f k+1) * 2 ^ p<=Big.B * 2 ^ p:=Nat.mul_le_mul_right _ (HS.out.ws k)
     rw [Nat.add_mul,Nat.one_mul] at a
     have:=HZ.out
     rw [Nat.mul_comm (2 ^ p) Big.B]
     omega
    have hq4:(f k * 2 ^ p+z) / Big.B<4294967296:=lQ o2
    have hr:(f k * 2 ^ p+z) % Big.B<Big.B:=Nat.mod_lt _ Big.B_pos
    have e1:=tH (f k * 2 ^ p+z)
    have e2:((f k * 2 ^ p+z:Nat):Int) / 4294967296=(((f k * 2 ^ p+z) / Big.B:Nat):Int):=by unfold Big.B;omega
    generalize (f k * 2 ^ p+z) % Big.B=r at *
    generalize (f k * 2 ^ p+z) / Big.B=q2 at *
    generalize f k * 2 ^ p+z=y at *
    clear dm
    unfold B at o2
    go_wp2_with (first
     | (at_builtin;refine wpList_append_own _ rfl _ _ 116 rfl w.heap.size 175 i0 (.int .u32 0) 1 4 Big.und_big hi hz0 hz1 hz2 rfl (by decide) _ _ _ rfl (hown.alloc _) ⟨wr.heap.size,0,none⟩ 1 1 [.int .u32 (r:Int)] rfl rfl (World.news_of_block (cs:=#[.int .u32 (r:Int)]) (t:=175) (fr:=(0,0)) (heap_alloc_new wr _)) (by simp [Value.oneCell']) (by unfold maxLen;omega) (by omega) (by rw [World.size_alloc];omega) ?_)
     | go_in)
    intro v' w3 hown' hgrow hnil
    have hb3:Bl w w3:=(hbl.alloc (by omega) _).grown hgrow (by rw [World.size_alloc];omega) (fun q hq=>(hown.lt q hq).1)
    have HO3:Hid (w3.ownsRow w.heap.size 175 1 v' (q+(k+1)) (dV .u32 (Big.put F (q+k) r) (q+(k+1)))/\Bl w w3):=⟨by rw [<- Nat.add_assoc,bH];exact hown',hb3⟩
    clear hown' hb3 hgrow hnil hown hbl
    go_wp2
    go_roundw
    case rel =>
     refine ⟨k+1,q2,Big.put F (q+k) r,rfl,by go_num,by omega,hqz,hq4,Big.put_Ws hF hr,HO3.out.1,HO3.out.2,?_⟩
     show _=_
     rw [<- Nat.add_assoc,bG,Nat.pow_succ]
     exact HST.out
    case measure=>simp [intOf];omega
  . obtain rfl:k=n:=by omega
    have e1:IntKind.u32.wrap (z:Int)=(z:Int):=by rw [IntKind.wrap_u32];omega
    have HE:Hid (Big.V (Big.put F (q+k) z) (q+k+1)=Big.V f k * 2 ^ s):=by
     show _=_
     rw [bG,HV.out]
    have hw:Big.Ws (Big.put F (q+k) z):=Big.put_Ws hF (by unfold Big.B;omega)
    go_wp2_with (first
     | (at_builtin;refine wpList_append_own _ rfl _ _ 116 rfl w.heap.size 175 i0 (.int .u32 0) 1 4 Big.und_big hi hz0 hz1 hz2 rfl (by decide) _ _ _ rfl (hown.alloc _) ⟨wr.heap.size,0,none⟩ 1 1 [.int .u32 (z:Int)] rfl rfl (World.news_of_block (cs:=#[.int .u32 (z:Int)]) (t:=175) (fr:=(0,0)) (heap_alloc_new wr _)) (by simp [Value.oneCell']) (by unfold maxLen;omega) (by omega) (by rw [World.size_alloc];omega) ?_)
     | go_in)
    intro v' w3 hown' hgrow hnil
    have hb3:Bl w w3:=(hbl.alloc (by omega) _).grown hgrow (by rw [World.size_alloc];omega) (fun q hq=>(hown.lt q hq).1)
    rw [<- bH] at hown'
    obtain ⟨ao',c',b',rfl,S3,hnw⟩:=Big.own_sl hown' hw
    have T:=Big.trim_any S3
    have NV:=S3.trimmedN hnw
    clear hnw
    rw [HE.out] at NV
    clear hown' hgrow hnil hown hbl
    go_wp2_with fail
    refine T.mono ?_
    rintro e wa ⟨rfl,rfl⟩
    go_wp2
    go_ret
    exact ⟨_,rfl,NV,hb3⟩
theorem yQ {w:World}{va:Value}{X:Nat}(ha:Big.NatV w va X) (hX:Fits 1000 X) (s:Nat) (hs:s<=32000) :
 Calls Tryz.prog 109 #[va,vI (s:Int)] w fun e w'=>∃ v,e=.returned v/\Big.NewV w' w.heap.size v (X * 2 ^ s)/\Bl w w':=by
 obtain ⟨ao,n,c,b,o,f,rfl,S,t,rfl⟩:=ha
 have hn:=bB t hX
 by_cases h0:n=0
 . subst h0
   rw [show Big.V f 0 * 2 ^ s=0 by rw [Big.V_zero,Nat.zero_mul]]
   clear S t hX
   go_enter Tryz.func109,Tryz.ntmps109
   go_wp2
   go_ret
   exact ⟨_,rfl,Big.newv_nil _ _,Below.refl _ _⟩
 . exact aDO S (by omega) hn s (s / 32) (s % 32) (by omega) (by omega) (by omega)
theorem iL {w:World}{va:Value}{X:Nat}(ha:Big.NatV w va X) (hX:Fits 1000 X) (s:Nat) (hs:s<=32000) :
 Calls Tryz.prog 109 #[va,vI (s:Int)] w fun e w'=>∃ v,e=.returned v/\Big.NatV w' v (X * 2 ^ s)/\Bl w w' :=
 (yQ ha hX s hs).mono fun _ _ ⟨v,e,n,b⟩=>⟨v,e,n.nat,b⟩
theorem zL {w:World}{ao:Option Addr}{n c b o:Nat}{f:Nat -> Nat}(S:Big.Sl w ao n c b o f) (hn:n<=1000) (s q p:Nat) (hsq:s=32 * q+p) (hp:p<32) (hq:q<n) :
 Calls Tryz.prog 138 #[.slice ao n c,vI (s:Int)] w fun e w'=>∃ v,e=.returned v/\Big.NewV w' w.heap.size v (Big.V f n / 2 ^ s)/\Bl w w':=by
 obtain ⟨i0,hi,hz0,hz1,hz2⟩:=info_parts Big.info_u32
 have HS:Hid (Big.Sl w ao n c b o f):=S
 obtain rfl:=S.addr (by omega)
 have d1:(s:Int) / 32=(q:Int):=by omega
 have d2:(s:Int) % 32=(p:Int):=by omega
 have d3:(s:Int).tdiv 32=(q:Int):=by rw [Int.tdiv_eq_ediv_of_nonneg (by omega)];exact d1
 have d4:(s:Int).tmod 32=(p:Int):=by rw [Int.tmod_eq_emod_of_nonneg (by omega)];exact d2
 have hs:s<=33000:=by omega
 have hlt:¬ 32 * (n:Int)<=(s:Int):=by omega
 have HQ:Hid (s=32 * q+p):=hsq
 obtain ⟨Y,hY⟩:∃ Y,Y=Big.V f n / 2 ^ s:=⟨_,rfl⟩
 have HY:Hid (Y=Big.V f n / 2 ^ s):=hY
 rw [<- hY]
 clear S hsq hY
 go_enter Tryz.func138,Tryz.ntmps138
 go_wp2
 go_loopw [5,6] (fun v i wr=>∃ k:Nat,i=vI ((q+k:Nat):Int)/\q+k<=n/\wr.ownsRow w.heap.size 175 1 v k (dV .u32 (dg Y) k)/\Bl w wr) (fun _ i _=>n - (intOf i).toNat)
 case atStart=>exact ⟨0,by go_num,by omega,World.ownsRow_nil _ _ _ _,Below.refl _ _⟩
 case round =>
  obtain ⟨k,rfl,hk,hown,hbl⟩:=hrel
  have hsz:=hbl.size
  by_cases c1:q+k<n
  . have hc:=(HS.out.below hbl).cell (q+k) c1
    have hf1:=HS.out.ws (q+k)
    have hf2:=HS.out.ws (q+k+1)
    have hd:=aBs HS.out.ws c1 hp
    rw [<- HQ.out,<- HY.out] at hd
    by_cases c2:q+k+1<n
    . have hc':=(HS.out.below hbl).cell (q+k+1) c2
      rw [aV c2] at hd
      have hor:=rA hf1 hf2
      have hpl:=aBY hf1 hf2
      have sh:((f (q+k)+f (q+k+1) * Big.B:Nat):Int) / 2 ^ p=(((f (q+k)+f (q+k+1) * Big.B) / 2 ^ p:Nat):Int):=by rw [Int.natCast_ediv];simp
      have e1:=tH ((f (q+k)+f (q+k+1) * Big.B) / 2 ^ p)
      unfold Big.B at hf1 hf2
      unfold B at hpl
      have HD:=(show Hid _ from hd)
      clear hd
      generalize (f (q+k)+f (q+k+1) * Big.B) / 2 ^ p % Big.B=r at *
      generalize (f (q+k)+f (q+k+1) * Big.B) / 2 ^ p=y2 at *
      generalize f (q+k)+f (q+k+1) * Big.B=y at *
      generalize hj:q+k=j at *
      go_wp2_with (first
       | (at_builtin;refine wpList_append_own _ rfl _ _ 116 rfl w.heap.size 175 i0 (.int .u32 0) 1 4 Big.und_big hi hz0 hz1 hz2 rfl (by decide) _ _ _ rfl (hown.alloc _) ⟨wr.heap.size,0,none⟩ 1 1 [.int .u32 (r:Int)] rfl rfl (World.news_of_block (cs:=#[.int .u32 (r:Int)]) (t:=175) (fr:=(0,0)) (heap_alloc_new wr _)) (by simp [Value.oneCell']) (by unfold maxLen;omega) (by omega) (by rw [World.size_alloc];omega) ?_)
       | go_in)
      intro v' w3 hown' hgrow hnil
      have hb3:Bl w w3:=(hbl.alloc (by omega) _).grown hgrow (by rw [World.size_alloc];omega) (fun q hq=>(hown.lt q hq).1)
      have HO3:Hid (w3.ownsRow w.heap.size 175 1 v' (k+1) (dV .u32 (dg Y) (k+1))/\Bl w w3):=⟨by rw [lL,HD.out];exact hown',hb3⟩
      clear hown' hb3 hgrow hnil hown hbl
      go_wp2
      go_roundw
      case rel=>exact ⟨k+1,by go_num,by omega,HO3.out.1,HO3.out.2⟩
      case measure=>simp [intOf];omega
    . rw [bN c2,Nat.zero_mul,Nat.add_zero] at hd
      have sh:((f (q+k):Nat):Int) / 2 ^ p=((f (q+k) / 2 ^ p:Nat):Int):=by rw [Int.natCast_ediv];simp
      have e1:=tH (f (q+k) / 2 ^ p)
      unfold Big.B at hf1 hf2
      have HD:=(show Hid _ from hd)
      clear hd
      generalize f (q+k) / 2 ^ p % Big.B=r at *
      generalize f (q+k) / 2 ^ p=y2 at *
      generalize f (q+k)=y at *
      generalize hj:q+k=j at *
      go_wp2_with (first
       | (at_builtin;refine wpList_append_own _ rfl _ _ 116 rfl w.heap.size 175 i0 (.int .u32 0) 1 4 Big.und_big hi hz0 hz1 hz2 rfl (by decide) _ _ _ rfl (hown.alloc _) ⟨wr.heap.size,0,none⟩ 1 1 [.int .u32 (r:Int)] rfl rfl (World.news_of_block (cs:=#[.int .u32 (r:Int)]) (t:=175) (fr:=(0,0)) (heap_alloc_new wr _)) (by simp [Value.oneCell']) (by unfold maxLen;omega) (by omega) (by rw [World.size_alloc];omega) ?_)
       | go_in)
      intro v' w3 hown' hgrow hnil
      have hb3:Bl w w3:=(hbl.alloc (by omega) _).grown hgrow (by rw [World.size_alloc];omega) (fun q hq=>(hown.lt q hq).1)
      have HO3:Hid (w3.ownsRow w.heap.size 175 1 v' (k+1) (dV .u32 (dg Y) (k+1))/\Bl w w3):=⟨by rw [lL,HD.out];exact hown',hb3⟩
      clear hown' hb3 hgrow hnil hown hbl
      go_wp2
      go_roundw
      case rel=>exact ⟨k+1,by go_num,by omega,HO3.out.1,HO3.out.2⟩
      case measure=>simp [intOf];omega
  . have hkn:k=n - q:=by omega
    obtain ⟨ao',c',b',rfl,S3,hnw⟩:=Big.own_sl hown (aD2 Y)
    have T:=Big.trim_any S3
    have NV:=S3.trimmedN hnw
    clear hnw
    have hfit:=vP (p:=p) HS.out.ws hq
    rw [<- HQ.out,<- HY.out,<- hkn] at hfit
    rw [aCK,Nat.mod_eq_of_lt hfit] at NV
    clear hown hkn hfit
    generalize hj:q+k=j at *
    go_wp2_with fail
    refine T.mono ?_
    rintro e wa ⟨rfl,rfl⟩
    go_wp2
    go_ret
    exact ⟨_,rfl,NV,hbl⟩
theorem nJ {w:World}{va:Value}{X:Nat}(ha:Big.NatV w va X) (hX:Fits 1000 X) (s:Nat) :
 Calls Tryz.prog 138 #[va,vI (s:Int)] w fun e w'=>∃ v,e=.returned v/\Big.NewV w' w.heap.size v (X / 2 ^ s)/\Bl w w':=by
 obtain ⟨ao,n,c,b,o,f,rfl,S,t,rfl⟩:=ha
 have hn:=bB t hX
 by_cases h0:32 * n<=s
 . have hz:Big.V f n / 2 ^ s=0:=by
    refine Nat.div_eq_of_lt (Nat.lt_of_lt_of_le (Big.V_lt S.ws n) ?_)
    rw [cH]
    exact Nat.pow_le_pow_right (by omega) h0
   rw [hz]
   have h0':32 * (n:Int)<=(s:Int):=by omega
   clear S t hX hz
   go_enter Tryz.func138,Tryz.ntmps138
   go_wp2
   go_ret
   exact ⟨_,rfl,Big.newv_nil _ _,Below.refl _ _⟩
 . exact zL S hn s (s / 32) (s % 32) (by omega) (by omega) (by omega)
theorem Big.Row.set {w:World}{g N:Nat}{F:Nat -> Nat}(R:Big.Row w g N F) (i:Nat) {r:Nat}(hr:r<Big.B):Big.Row (w.setCell ⟨g,i,none⟩ (.int .u32 (r:Int))) g N (Big.put F i r):=by
 refine ⟨(R.row.set i (.int .u32 (r:Int))).congr fun j hj=>?_,Big.put_Ws R.ws hr⟩
 unfold Big.put
 by_cases c:j=i
 . rw [if_pos c,if_pos c]
 . rw [if_neg c,if_neg c]
theorem Big.Row.sl0 {w:World}{g N:Nat}{F:Nat -> Nat}(R:Big.Row w g N F) (hN:N<=maxLen):Big.Sl w (some ⟨g,0,none⟩) N N g 0 F :=
 ⟨Nat.le_refl _,hN,fun _=>rfl,fun _=>R.row.lt,fun i hi=>by rw [Nat.zero_add];exact R.row.cell hi,R.ws⟩
theorem Big.made_row (w:World) (n:Nat):Big.Row (w.alloc (.cells (madeCells #[.int .u32 0] n) 175)) w.heap.size n (fun _=>0):=⟨World.rowIs_made _ _ _ _,fun _=>Big.B_pos⟩
theorem Big.Sl.kept {w w':World}{ao:Option Addr}{n c b o g:Nat}{f:Nat -> Nat}(S:Big.Sl w ao n c b o f) (h:w.grownBy w' (some g)) (hne:0<n -> b ≠ g):Big.Sl w' ao n c b o f :=
 ⟨S.le,S.cap,S.addr,fun q=>Nat.lt_of_lt_of_le (S.blk q) h.size,fun i hi=>by
  rw [World.cell?_of_block (w:=w) (h.block b (S.blk (by omega)) (fun e=>hne (by omega) (Option.some.inj e)))];exact S.cell i hi,S.ws⟩
theorem ApV.nat {w:World}{g:Nat}{v:Value}{X:Nat}(h:ApV w g v X):Big.NatV w v X:=by
 obtain ⟨ao,n,c,b,o,f,e,S,t,r,_⟩:=h
 exact ⟨ao,n,c,b,o,f,e,S,t,r⟩
theorem ApV.set {w:World}{g:Nat}{v:Value}{X:Nat}(h:ApV w g v X) (i:Nat) (u:Value):ApV (w.setCell ⟨g,i,none⟩ u) g v X:=by
 obtain ⟨ao,n,c,b,o,f,e,S,t,r,a⟩:=h
 exact ⟨ao,n,c,b,o,f,e,S.kept (cK (World.grownBy.refl _ _) u) a,t,r,a⟩
theorem Big.NewV.apart {w:World}{base g:Nat}{v:Value}{X:Nat}(h:Big.NewV w base v X) (hg:g<base):ApV w g v X:=by
 obtain ⟨ao,n,c,b,o,f,e,S,t,r,a⟩:=h
 exact ⟨ao,n,c,b,o,f,e,S,t,r,fun q=>by have:=a q;omega⟩
theorem lH {t:Nat}(h:t<4294967296):IntKind.u32.wrap (t:Int)=(t:Int):=by rw [IntKind.wrap_u32];omega
theorem aAp {X R Y Q k:Nat}(h:X=R+Y * Q) (hr:R<Y * 2 ^ (k+1)) (hd:Y * 2 ^ k<=R):X=R - Y * 2 ^ k+Y * (Q+2 ^ k)/\R - Y * 2 ^ k<Y * 2 ^ k:=by
 rw [Nat.pow_succ] at hr
 rw [Nat.mul_add]
 have:Y * (2 ^ k * 2)=Y * 2 ^ k+Y * 2 ^ k:=by grind
 omega
theorem mL {Y k:Nat}:Y * 2 ^ (k+1) / 2=Y * 2 ^ k:=by
 rw [Nat.pow_succ,<- Nat.mul_assoc,Nat.mul_div_cancel _ (by omega)]
theorem wZ {w:World}{va vb:Value}{X Y:Nat}(ha:Big.NatV w va X) (hb:Big.NatV w vb Y) (hX:Fits 999 X) (hY:Fits 999 Y) (h0:Y ≠ 0) :
 Calls Tryz.prog 110 #[va,vb] w fun e w'=>∃ v1 v2,e=.returned (.tuple #[v1,v2])/\Big.NatV w' v1 (X / Y)/\Big.NatV w' v2 (X % Y)/\Bl w w':=by
 have L1:=eA ha (hX.up (by omega))
 have L2:=eA hb (hY.up (by omega))
 have bX:=iO hX
 have bY:=iO hY
 by_cases c1:bl X<bl Y
 . have lt:X<Y:=by
    have a:=sJ X
    have b:=sI h0
    have c:2 ^ bl X<=2 ^ (bl Y - 1):=Nat.pow_le_pow_right (by omega) (by omega)
    omega
   rw [Nat.div_eq_of_lt lt,Nat.mod_eq_of_lt lt]
   clear lt hX hY hb h0
   have HA:Hid (Big.NatV w va X):=ha
   clear ha
   generalize bl X=x at *
   generalize bl Y=y at *
   have c1':(x:Int) - (y:Int)<0:=by omega
   go_enter Tryz.func110,Tryz.ntmps110
   go_wp2_with fail
   refine L1.mono ?_
   rintro e w ⟨rfl,rfl⟩
   go_wp2_with fail
   refine L2.mono ?_
   rintro e w ⟨rfl,rfl⟩
   go_wp2
   refine bodyPost_ret (v:=.tuple #[.slice none 0 0,va]) (by simp [results,Tryz.results110,go_sem]) rfl ⟨_,_,rfl,Big.natv_nil _,HA.out,Below.refl _ _⟩
 . obtain ⟨n,hn⟩:∃ n,bl X=bl Y+n:=⟨bl X - bl Y,by omega⟩
   have start:X<Y * 2 ^ (n+1):=by
    have a:=sJ X
    have b:=Nat.mul_le_mul_right (2 ^ (n+1)) (sI h0)
    have p:=aCD h0
    rw [<- Nat.pow_add,show bl Y - 1+(n+1)=bl X by omega] at b
    omega
   have HST:Hid (X<Y * 2 ^ (n+1)):=start
   have hn2:n<=31968:=by omega
   have fd:Fits 1000 (Y * 2 ^ n):=by
    refine (aZ (s:=bl X) (k:=1000) (by omega)).le ?_
    have a:=Nat.mul_le_mul_right (2 ^ n) (Nat.le_of_lt (sJ Y))
    rw [<- Nat.pow_add,<- hn] at a
    exact a
   have HF:Hid (Fits 999 X/\Fits 999 Y/\Fits 1000 (Y * 2 ^ n)/\Y ≠ 0):=⟨hX,hY,fd,h0⟩
   have d12:((bl X:Nat):Int) - ((bl Y:Nat):Int)=(n:Int):=by omega
   have hmk:=run_make_row' (P:=Tryz.prog) 116 175 (.int .u32 0) 4 Big.und_big Big.info_u32 rfl .i64 .i64 (n / 32+1) (by omega) (by omega)
   simp only [Int.natCast_add,Int.natCast_one] at hmk
   have hdv:(n:Int) / 32=((n / 32:Nat):Int):=by omega
   have HAB:Hid (Big.NatV w va X/\Big.NatV w vb Y):=⟨ha,hb⟩
   have hap:∀ W:World,Bl w W -> ApV W w.heap.size va X:=fun W hW=>by
    obtain ⟨ao,k,c,b,o,f,e,S,t,r⟩:=ha
    exact ⟨ao,k,c,b,o,f,e,S.below hW,t,r,fun q=>Nat.ne_of_lt (S.blk q)⟩
   have HAP:Hid (∀ W:World,Bl w W -> ApV W w.heap.size va X):=hap
   have hN:n / 32+1<=1000:=by omega
   have HN:Hid (n<32 * (n / 32+1)):=(by omega:n<32 * (n / 32+1))
   generalize n / 32=N at *
   generalize bl X=x at *
   generalize bl Y=y at *
   clear start fd hX hY h0 hn c1 ha hb hap
   go_enter Tryz.func110,Tryz.ntmps110
   go_wp2_with fail
   refine L1.mono ?_
   rintro e w ⟨rfl,rfl⟩
   go_wp2_with fail
   refine L2.mono ?_
   rintro e w ⟨rfl,rfl⟩
   clear L1 L2
   have bA:Bl w (w.alloc (.cells (madeCells #[.int .u32 0] (N+1)) 175)):=bz _ _
   have U:=yQ (HAB.out.2.below bA) (HF.out.2.1.up (by omega)) n (by omega)
   have R0:=Big.made_row w (N+1)
   go_wp2_with fail
   refine U.mono ?_
   rintro e w1 ⟨vd,rfl,nd,b1⟩
   replace R0:=R0.below b1
   have B1:Bl w w1:=bA.trans (b1.mono (by simp))
   have ad:ApV w1 w.heap.size vd (Y * 2 ^ n):=nd.apart (by simp)
   have ar:ApV w1 w.heap.size va X:=HAP.out w1 B1
   clear U nd b1 bA
   go_wp2
   go_loopw [8,9,10] (fun vd vr i wr=>∃ (k R:Nat) (Q:Nat -> Nat),i=vI ((k:Int) - 1)/\k<=n+1/\Big.Row wr w.heap.size (N+1) Q/\Bl w wr/\ApV wr w.heap.size vd (Y * 2 ^ k / 2)/\ApV wr w.heap.size vr R/\Hid (X=R+Y * Big.V Q (N+1)/\R<Y * 2 ^ k/\Big.V Q (N+1) % 2 ^ k=0)) (fun _ _ i _=>(intOf i+1).toNat)
   case atStart =>
    refine ⟨n+1,X,fun _=>0,by go_num,Nat.le_refl _,R0,B1,by rw [mL];exact ad,ar,?_⟩
    refine ⟨?_,HST.out,?_⟩
    . rw [Big.V_nought,Nat.mul_zero,Nat.add_zero]
    . rw [Big.V_nought,Nat.zero_mod]
   case round =>
    clear ad ar R0 B1
    obtain ⟨k,R,Q,rfl,hk,RQ,hbl,ad,ar,HI⟩:=hrel
    have HRQ:Hid (Big.Row wr w.heap.size (N+1) Q):=RQ
    have HB:Hid (Bl w wr):=hbl
    have hsz:=hbl.size
    have hgl:w.heap.size<wr.heap.size:=RQ.row.lt
    by_cases c1:k=0
    . subst c1
      have T:=Big.trim_any (RQ.sl0 (by unfold maxLen;omega))
      have NV:=(RQ.sl0 (by unfold maxLen;omega)).trimmed
      have HD:Hid (Big.V Q (N+1)=X / Y/\R=X % Y):=by
       obtain ⟨i1,i2,_⟩:=HI.out
       rw [Nat.pow_zero,Nat.mul_one] at i2
       have yp:0<Y:=Nat.pos_of_ne_zero HF.out.2.2.2
       refine ⟨?_,?_⟩
       . rw [i1,Nat.add_mul_div_left _ _ yp,Nat.div_eq_of_lt i2,Nat.zero_add]
       . rw [i1,Nat.add_mul_mod_self_left,Nat.mod_eq_of_lt i2]
      rw [HD.out.1] at NV
      have nr:=ar.nat
      rw [HD.out.2] at nr
      clear RQ ad ar
      go_wp2_with fail
      refine T.mono ?_
      rintro e wa ⟨rfl,rfl⟩
      go_wp2
      refine bodyPost_ret (v:=.tuple #[_,_]) (by simp [results,Tryz.results110,go_sem]) rfl ⟨_,_,rfl,NV,nr,HB.out⟩
    . obtain ⟨j,rfl⟩:∃ j,k=j+1:=⟨k - 1,by omega⟩
      rw [mL] at ad
      have ij:((j+1:Nat):Int) - 1=(j:Int):=by omega
      have hj0:(0:Int)<=(j:Int):=by omega
      have CM:=gD ar.nat ad.nat
      obtain ⟨m1,m2,m3⟩:=aAo HI.out.2.2
      have fR:Fits 999 R:=by
       refine HF.out.1.le ?_
       rw [HI.out.1];exact Nat.le_add_right _ _
      have fD:Fits 1000 (Y * 2 ^ j):=HF.out.2.2.1.le (Nat.mul_le_mul_left _ (Nat.pow_le_pow_right (by omega) (by omega)))
      have HFF:Hid (Fits 999 R/\Fits 1000 (Y * 2 ^ j)):=⟨fR,fD⟩
      have HM:Hid ((Big.V Q (N+1)+2 ^ j) % 2 ^ j=0/\Big.V Q (N+1) % 2 ^ j=0/\Big.V Q (N+1) / 2 ^ j % 2=0):=⟨m1,m2,m3⟩
      clear m1 m2 m3 fR fD
      by_cases c2:R<Y * 2 ^ j
      . rw [oH c2] at CM
        have HLT:Hid (R<Y * 2 ^ j):=c2
        clear c2 RQ
        simp only [Int.natCast_add,Int.natCast_one] at ij
        go_wp2_with fail
        refine CM.mono ?_
        rintro e w2 ⟨rfl,b2⟩
        have ad2:=ad.below b2
        have ar2:=ar.below b2
        have B2:Bl w w2:=HB.out.trans (b2.mono hsz)
        have DN:=nJ ad2.nat (HFF.out.2.up (by omega)) 1
        have h2:w.heap.size<w2.heap.size:=Nat.lt_of_lt_of_le hgl b2.size
        have HR2:Hid (Big.Row w2 w.heap.size (N+1) Q):=HRQ.out.below b2
        clear CM b2 ad ar
        go_wp2_with fail
        refine DN.mono ?_
        rintro e w3 ⟨vd3,rfl,nd3,b3⟩
        have B3:Bl w w3:=B2.trans (b3.mono (by omega))
        have ad3:=nd3.apart h2
        rw [Nat.pow_one] at ad3
        have ar3:=ar2.below b3
        have HR3:Hid (Big.Row w3 w.heap.size (N+1) Q):=HR2.out.below b3
        clear DN b3 nd3 ad2 ar2 B2
        go_wp2
        go_roundw
        case rel=>exact ⟨j,R,Q,by go_num,by omega,HR3.out,B3,ad3,ar3,⟨HI.out.1,HLT.out,HM.out.2.1⟩⟩
        case measure=>simp [intOf]
      . have ho:¬ ord R (Y * 2 ^ j)<0:=fun z=>c2 (aAm z)
        have HLE:Hid (Y * 2 ^ j<=R):=Nat.le_of_not_lt c2
        obtain ⟨i,p,hip,hp⟩:∃ i p,j=32 * i+p/\p<32:=⟨j / 32,j % 32,by omega,by omega⟩
        have hiN:i<N+1:=by have:=HN.out;omega
        have hbit:=HM.out.2.2
        rw [hip,uW RQ.ws hiN hp] at hbit
        have hor:=uX (Q i) (2 ^ p) (RQ.ws i) (by have:2 ^ p<2 ^ 32:=Nat.pow_lt_pow_right (by omega) hp;omega)
        rw [rR hbit] at hor
        have hroom:=aAL (RQ.ws i) hp hbit
        have hpp:2 ^ p<4294967296:=by have:2 ^ p<2 ^ 32:=Nat.pow_lt_pow_right (by omega) hp;omega
        have sh1:IntKind.u32.wrap (1 * (2:Int) ^ p)=((2 ^ p:Nat):Int):=by rw [Int.one_mul,cF];exact lH hpp
        have sh2:IntKind.u32.wrap ((2:Int) ^ p)=((2 ^ p:Nat):Int):=by rw [cF];exact lH hpp
        have d1:(j:Int) / 32=(i:Int):=by omega
        have d2:(j:Int) % 32=(p:Int):=by omega
        have d3:(j:Int).tdiv 32=(i:Int):=by rw [Int.tdiv_eq_ediv_of_nonneg (by omega)];exact d1
        have d4:(j:Int).tmod 32=(p:Int):=by rw [Int.tmod_eq_emod_of_nonneg (by omega)];exact d2
        have HVP:Hid (Big.V (Big.put Q i (Q i+2 ^ p)) (N+1)=Big.V Q (N+1)+2 ^ j):=by
         show _=_
         rw [aDT hiN,hip,Nat.pow_add,<- cH,Nat.mul_comm (2 ^ p)]
        obtain ⟨o1,o2⟩:=aAp HI.out.1 HI.out.2.1 HLE.out
        have HO:Hid (X=R - Y * 2 ^ j+Y * (Big.V Q (N+1)+2 ^ j)/\R - Y * 2 ^ j<Y * 2 ^ j):=⟨o1,o2⟩
        have HRM:Hid (Q i+2 ^ p<Big.B):=hroom
        generalize 2 ^ p=t at *
        generalize hk1:ord R (Y * 2 ^ j)=o at *
        clear c2 RQ o1 o2 hbit hip hk1 hroom
        simp only [Int.natCast_add,Int.natCast_one] at ij
        go_wp2_with fail
        refine CM.mono ?_
        rintro e w2 ⟨rfl,b2⟩
        have ad2:=ad.below b2
        have ar2:=ar.below b2
        have B2:Bl w w2:=HB.out.trans (b2.mono hsz)
        have h2:w.heap.size<w2.heap.size:=Nat.lt_of_lt_of_le hgl b2.size
        have HR2:Hid (Big.Row w2 w.heap.size (N+1) Q):=HRQ.out.below b2
        have MN:=wQ ar2.nat ad2.nat (HFF.out.1.up (by omega)) HLE.out
        clear CM b2 ad ar
        go_wp2_with fail
        refine MN.mono ?_
        rintro e w3 ⟨vr3,rfl,nr3,b3⟩
        have B3:Bl w w3:=B2.trans (b3.mono (by omega))
        have ad3:=ad2.below b3
        have ar3:=nr3.apart h2
        have R3:=HR2.out.below b3
        have HR3:Hid (Big.Row w3 w.heap.size (N+1) Q):=R3
        have h3:w.heap.size<w3.heap.size:=Nat.lt_of_lt_of_le h2 b3.size
        have cz:=R3.row.cell (i:=i) hiN
        have fz:=R3.row.frozen i
        clear MN b3 nr3 ad2 ar2 B2 R3
        obtain ⟨w4,hw4⟩:∃ w4,w4=w3.setCell ⟨w.heap.size,i,none⟩ (.int .u32 (((Q i:Nat):Int)+(t:Int))):=⟨_,rfl⟩
        have B4:Bl w w4:=by rw [hw4];exact B3.setCell (Nat.le_refl _) _
        have R4:Big.Row w4 w.heap.size (N+1) (Big.put Q i (Q i+t)):=by rw [hw4,<- Int.natCast_add];exact HR3.out.set i HRM.out
        have ad4:ApV w4 w.heap.size u8 (Y * 2 ^ j):=by rw [hw4];exact ad3.set i _
        have ar4:ApV w4 w.heap.size vr3 (R - Y * 2 ^ j):=by rw [hw4];exact ar3.set i _
        have h4:w.heap.size<w4.heap.size:=by rw [hw4,World.size_setCell];exact h3
        have HW4:Hid (w4=w3.setCell ⟨w.heap.size,i,none⟩ (.int .u32 (((Q i:Nat):Int)+(t:Int)))):=hw4
        clear hw4
        go_wp2_with fail
        rw [<- HW4.out]
        have DN:=nJ ad4.nat (HFF.out.2.up (by omega)) 1
        have HR4:Hid (Big.Row w4 w.heap.size (N+1) (Big.put Q i (Q i+t))):=R4
        refine DN.mono ?_
        rintro e w5 ⟨vd5,rfl,nd5,b5⟩
        have B5:Bl w w5:=B4.trans (b5.mono (by omega))
        have ad5:=nd5.apart h4
        rw [Nat.pow_one] at ad5
        have ar5:=ar4.below b5
        have HR5:Hid (Big.Row w5 w.heap.size (N+1) (Big.put Q i (Q i+t))):=HR4.out.below b5
        clear DN b5 nd5 ad4 ar4 B4 R4
        go_wp2
        go_roundw
        case rel=>exact ⟨j,R - Y * 2 ^ j,Big.put Q i (Q i+t),by go_num,by omega,HR5.out,B5,ad5,ar5,⟨by rw [HVP.out];exact HO.out.1,HO.out.2,by rw [HVP.out];exact HM.out.1⟩⟩
        case measure=>simp [intOf]
theorem bP (x:Nat) (hx:x<B) (w:World) :
 Calls Tryz.prog 105 #[vU (x:Int)] w fun e w'=>∃ v,e=.returned v/\Big.NatV w' v x/\Bl w w':=by
 have e1:=tH x
 have e2:=aEx hx
 have h1:x % Big.B<Big.B:=Nat.mod_lt _ Big.B_pos
 have h2:x / Big.B<Big.B:=lQ hx
 have hS:∀ W:World,Big.Sl (W.alloc (.cells #[.int .u32 ((x % Big.B:Nat):Int),.int .u32 ((x / Big.B:Nat):Int)] 175)) (some ⟨W.heap.size,0,none⟩) 2 2 W.heap.size 0 (bV (fun _=>x)):=fun W =>
  ⟨Nat.le_refl _,by unfold maxLen;omega,fun _=>rfl,fun _=>by simp,fun i hi=>by
   rcases (by omega:i=0 \/ i=1) with rfl | rfl
   . simp [bV]
   . simp [bV],wC (fun _=>hx)⟩
 have hV:Big.V (bV (fun _=>x)) 2=x:=by
  have:=nX (fun _=>x) 1
  rw [this,V_succ,V_zero,Nat.pow_zero];omega
 have HS:Hid (∀ W:World,Big.Sl (W.alloc (.cells #[.int .u32 ((x % Big.B:Nat):Int),.int .u32 ((x / Big.B:Nat):Int)] 175)) (some ⟨W.heap.size,0,none⟩) 2 2 W.heap.size 0 (bV (fun _=>x))):=hS
 have HV:Hid (Big.V (bV (fun _=>x)) 2=x):=hV
 clear hS hV
 generalize x % Big.B=lo at *
 generalize x / Big.B=hi at *
 have T:=Big.trim_any (HS.out w)
 have NV:=(HS.out w).trimmed
 rw [HV.out] at NV
 go_enter Tryz.func105,Tryz.ntmps105
 go_wp2_with fail
 refine T.mono ?_
 rintro e wa ⟨rfl,rfl⟩
 go_wp2
 go_ret
 exact ⟨_,rfl,NV,bz _ _⟩
theorem vB {w:World}{va:Value}{X:Nat}(ha:Big.NatV w va X) (hX:X<18446744073709551616) :
 Cs 115 #[va] w (vU (X:Int)):=by
 obtain ⟨ao,n,c,b,o,f,rfl,S,t,rfl⟩:=ha
 have hn:n<=2:=bB t ⟨2,Nat.le_refl _,by unfold Big.B;omega⟩
 have HS:Hid (Big.Sl w ao n c b o f):=S
 obtain ⟨X,hX'⟩:∃ X,X=Big.V f n:=⟨_,rfl⟩
 rw [<- hX'] at hX ⊢
 have HX:Hid (X=Big.V f n):=hX'
 clear hX' S t
 go_enter Tryz.func115,Tryz.ntmps115
 go_wp2
 go_loop [3,4] (fun a i=>∃ k y:Nat,i=vI (k:Int)/\a=vU (y:Int)/\k<=n/\Hid (y=Big.V f k)) (fun _ i=>n - (intOf i).toNat)
 case atStart=>exact ⟨0,0,rfl,rfl,Nat.zero_le _,rfl⟩
 case round =>
  obtain ⟨k,y,rfl,rfl,hk,HY⟩:=hrel
  by_cases c1:k<n
  . have hc:=HS.out.cell k c1
    obtain rfl:=HS.out.addr (by omega)
    rcases (by omega:k=0 \/ k=1) with rfl | rfl
    . have y0:y=0:=HY.out
      subst y0
      rw [Nat.add_zero] at hc
      have f0:=HS.out.ws 0
      unfold Big.B at f0
      have HV:Hid (f 0=Big.V f 1):=by show _=_;rw [Big.V_succ,Big.V_zero,Nat.pow_zero];omega
      generalize f 0=z at *
      have zo:bits .or .u64 0 (z:Int)=(z:Int):=by
       have:=bits_or_u64_nat 0 z (by omega) (by omega)
       rw [Nat.zero_or] at this
       exact this
      have zw:IntKind.u64.wrap (z:Int)=(z:Int):=by rw [IntKind.wrap_u64];omega
      clear HY
      go_wp2
      go_round
      case rel=>exact ⟨1,z,rfl,by first | rfl | rw [zo],by omega,HV⟩
      case measure=>simp [intOf];omega
    . have y1:y=f 0:=by rw [HY.out,Big.V_succ,Big.V_zero,Nat.pow_zero];omega
      have f0:=HS.out.ws 0
      have f1:=HS.out.ws 1
      have po:=rA f0 f1
      have HV:Hid (f 0+f 1 * Big.B=Big.V f 2):=by show _=_;rw [Big.V_succ,Big.V_succ,Big.V_zero,Nat.pow_zero,Nat.pow_one];omega
      subst y1
      unfold Big.B at f0 f1
      generalize hs:f 0+f 1 * Big.B=s at *
      clear hs
      generalize f 0=z0 at *
      generalize f 1=z1 at *
      have zw:IntKind.u64.wrap ((z1:Int) * 4294967296)=(z1:Int) * 4294967296:=by rw [IntKind.wrap_u64];omega
      clear HY
      go_wp2
      go_round
      case rel=>exact ⟨2,s,rfl,by first | rfl | rw [po],by omega,HV⟩
      case measure=>simp [intOf];omega
  . obtain rfl:k=n:=by omega
    have yx:y=X:=by rw [HY.out,HX.out]
    subst yx
    have c2:¬ (k:Int)<(k:Int):=by omega
    go_wp2
    go_ret
    exact ⟨rfl,rfl⟩
theorem yH {w:World}{ao:Option Addr}{n c ba oa:Nat}{f:Nat -> Nat}(S:Big.Sl w ao n c ba oa f) {bo:Option Addr}{m cb bb ob:Nat}{g:Nat -> Nat}(S':Big.Sl w bo m cb bb ob g) (hn:n<=1000) (hm:m<=1000) :
 Calls Tryz.prog 103 #[.slice ao n c,.slice bo m cb] w fun e w'=>∃ v,e=.returned v/\Big.NatV w' v (Big.V f n * Big.V g m)/\Bl w w':=by
 have hmk:=run_make_row' (P:=Tryz.prog) 116 175 (.int .u32 0) 4 Big.und_big Big.info_u32 rfl .i64 .i64 (n+m) (by omega) (by omega)
 simp only [Int.natCast_add] at hmk
 have HS:Hid (Big.Sl w ao n c ba oa f):=S
 have HS':Hid (Big.Sl w bo m cb bb ob g):=S'
 clear S S'
 go_enter Tryz.func103,Tryz.ntmps103
 go_wp2
 go_loopw [6] (fun i wr=>∃ (k:Nat) (F':Nat -> Nat),i=vI (k:Int)/\k<=n/\Big.Row wr w.heap.size (n+m) F'/\Bl w wr/\(∀ j,k+m<=j -> F' j=0)/\Big.V F' (k+m)=Big.V f k * Big.V g m) (fun i _=>n - (intOf i).toNat)
 case atStart=>exact ⟨0,fun _=>0,rfl,Nat.zero_le _,Big.made_row _ _,bz _ _,fun _ _=>rfl,by rw [Big.V_nought,Big.V_zero,Nat.zero_mul]⟩
 case round =>
  obtain ⟨k,F',rfl,hk,R',hbl,hz,hv⟩:=hrel
  have HZ:Hid (∀ j,k+m<=j -> F' j=0):=hz
  have HV:Hid (Big.V F' (k+m)=Big.V f k * Big.V g m):=hv
  have HB:Hid (Bl w wr):=hbl
  have HR:Hid (Big.Row wr w.heap.size (n+m) F'):=R'
  clear hz hv
  by_cases c1:k<n
  . obtain rfl:=HS.out.addr (by omega)
    have hxB:=HS.out.ws k
    unfold Big.B at hxB
    clear hbl R'
    go_wp2
    go_loopw [7,8] (fun cy i w2=>∃ (j v:Nat) (F2:Nat -> Nat),cy=vU (v:Int)/\i=vI (j:Int)/\j<=m/\v<4294967296/\Big.Row w2 w.heap.size (n+m) F2/\Bl w w2/\(∀ t,t<k \/ k+j<=t -> F2 t=F' t)/\Big.V (fun t=>F2 (k+t)) j+v * Big.B ^ j=Big.V (fun t=>F' (k+t)) j+Big.V g j * f k) (fun _ i _=>m - (intOf i).toNat)
    case atStart=>exact ⟨0,0,F',rfl,rfl,Nat.zero_le _,by omega,HR.out,HB.out,fun _ _=>rfl,by simp [Big.V]⟩
    case round =>
     obtain ⟨j,v,F2,rfl,rfl,hj,hv4,R2,hb2,hfr,hVV⟩:=hrel
     have HF:Hid (∀ t,t<k \/ k+j<=t -> F2 t=F' t):=hfr
     have HVV:Hid (Big.V (fun t=>F2 (k+t)) j+v * Big.B ^ j=Big.V (fun t=>F' (k+t)) j+Big.V g j * f k):=hVV
     have HR2:Hid (Big.Row wr w.heap.size (n+m) F2):=R2
     have HB2:Hid (Bl w wr):=hb2
     clear hfr hVV
     by_cases c2:j<m
     . obtain rfl:=HS'.out.addr (by omega)
       have ca:=(HS.out.below hb2).cell k c1
       have cb':=(HS'.out.below hb2).cell j c2
       have cz:=R2.row.cell (i:=k+j) (by omega)
       have fz:=R2.row.frozen (k+j)
       have hyB:=HS'.out.ws j
       have hzB:=R2.ws (k+j)
       unfold Big.B at hyB hzB
       have pm:((f k:Nat):Int) * ((g j:Nat):Int)=((f k * g j:Nat):Int):=by rw [Int.natCast_mul]
       have pl:f k * g j<=18446744065119617025:=Nat.mul_le_mul (show f k<=4294967295 by omega) (show g j<=4294967295 by omega)
       have dm:=Nat.div_add_mod (v+F2 (k+j)+f k * g j) Big.B
       have st:=gO (β:=Big.B) (y:=g j) (z:=F2 (k+j)) (l:=(v+F2 (k+j)+f k * g j) % Big.B) (d:=(v+F2 (k+j)+f k * g j) / Big.B) HVV.out (by rw [Nat.mul_comm _ Big.B];omega)
       have hr:(v+F2 (k+j)+f k * g j) % Big.B<Big.B:=Nat.mod_lt _ Big.B_pos
       have hq:(v+F2 (k+j)+f k * g j) / Big.B<4294967296:=by unfold Big.B;omega
       have e1:IntKind.u32.wrap ((v:Int)+((F2 (k+j):Nat):Int)+((f k * g j:Nat):Int))=(((v+F2 (k+j)+f k * g j) % Big.B:Nat):Int):=by rw [IntKind.wrap_u32];unfold Big.B;omega
       have e2:((v:Int)+((F2 (k+j):Nat):Int)+((f k * g j:Nat):Int)) / 4294967296=(((v+F2 (k+j)+f k * g j) / Big.B:Nat):Int):=by unfold Big.B;omega
       have HFK:Hid (F2 (k+j)=F' (k+j)):=HF.out _ (Or.inr (by omega))
       have HST:=(show Hid _ from st)
       clear st dm R2 hb2
       generalize (v+F2 (k+j)+f k * g j) % Big.B=r at *
       generalize (v+F2 (k+j)+f k * g j) / Big.B=q at *
       generalize f k * g j=P at *
       have i1:(0:Int)<=(k:Int)+(j:Int):=by omega
       have i2:(k:Int)+(j:Int)<(n:Int)+(m:Int):=by omega
       have i3:(k:Int)<(n:Int):=by omega
       have i4:(j:Int)<(m:Int):=by omega
       have i5:IntKind.i64.wrap ((k:Int)+(j:Int))=(k:Int)+(j:Int):=by rw [IntWalk.i64_left,IntWalk.wrap64_in _ ⟨by omega,by omega⟩]
       have i6:((k:Int)+(j:Int)).toNat=k+j:=by omega
       have u1:IntKind.u64.wrap ((F2 (k+j):Nat):Int)=((F2 (k+j):Nat):Int):=by rw [IntKind.wrap_u64];omega
       have u2:IntKind.u64.wrap ((v:Int)+((F2 (k+j):Nat):Int))=(v:Int)+((F2 (k+j):Nat):Int):=by rw [IntKind.wrap_u64];omega
       have u3:IntKind.u64.wrap ((f k:Nat):Int)=((f k:Nat):Int):=by rw [IntKind.wrap_u64];omega
       have u4:IntKind.u64.wrap ((g j:Nat):Int)=((g j:Nat):Int):=by rw [IntKind.wrap_u64];omega
       have u5:IntKind.u64.wrap (P:Int)=(P:Int):=by rw [IntKind.wrap_u64];omega
       have u6:IntKind.u64.wrap ((v:Int)+((F2 (k+j):Nat):Int)+(P:Int))=(v:Int)+((F2 (k+j):Nat):Int)+(P:Int):=by rw [IntKind.wrap_u64];omega
       go_wp2
       go_region_held3 (fun w'=>w'.cell? ⟨w.heap.size,k+j,none⟩=some (.int .u32 ((F2 (k+j):Nat):Int))/\w'.cell? ⟨ba,oa+k,none⟩=some (.int .u32 ((f k:Nat):Int))/\w'.cell? ⟨bb,ob+j,none⟩=some (.int .u32 ((g j:Nat):Int))) (go_keep) (fail)
       go_wp2
       go_roundw
       case rel =>
        refine ⟨j+1,q,Big.put F2 (k+j) r,rfl,by go_num,by omega,hq,HR2.out.drew.set (k+j) hr,HB2.out.drew.setCell (Nat.le_refl _) _,?_,?_⟩
        . intro t ht
          rw [Big.put_ne (by omega)]
          exact HF.out t (by omega)
        . have e:Big.V (fun t=>Big.put F2 (k+j) r (k+t)) (j+1)=Big.V (fun t=>F2 (k+t)) j+r * Big.B ^ j:=by
           rw [Big.V_succ,Big.V_congr (f:=fun t=>Big.put F2 (k+j) r (k+t)) (g:=fun t=>F2 (k+t)) (fun i hi=>Big.put_ne (by omega)),Big.put_at]
          rw [e,Big.V_succ (fun t=>F' (k+t)),Big.V_succ g,Nat.pow_succ]
          have s:=HST.out
          rw [HFK.out] at s
          exact s
       case measure=>simp [intOf];omega
     . obtain rfl:j=m:=by omega
       have cz:=R2.row.cell (i:=k+j) (by omega)
       have fz:=R2.row.frozen (k+j)
       have e1:IntKind.u32.wrap (v:Int)=(v:Int):=by rw [IntKind.wrap_u32];omega
       have hvB:v<Big.B:=hv4
       clear R2 hb2
       go_wp2
       go_roundw
       case rel =>
        refine ⟨k+1,Big.put F2 (k+j) v,by go_num,by omega,HR2.out.set (k+j) hvB,HB2.out.setCell (Nat.le_refl _) _,?_,?_⟩
        . intro t ht
          rw [Big.put_ne (by omega),HF.out t (by omega)]
          exact HZ.out t (by omega)
        . have e1:Big.V (Big.put F2 (k+j) v) (k+1+j)=Big.V F2 (k+j)+v * Big.B ^ (k+j):=by
           rw [show k+1+j=k+j+1 by omega,Big.V_succ,Big.V_put_low (Nat.le_refl _),Big.put_at]
          have e2:=Big.V_split F2 k j
          have e3:=Big.V_split F' k j
          have e4:Big.V F2 k=Big.V F' k:=Big.V_congr fun i hi=>HF.out i (by omega)
          rw [e4] at e2
          rw [e1,e2,Big.V_succ f k,Nat.pow_add]
          have e5:=jR (p:=Big.B ^ k) HVV.out (u:=Big.V F' k) (a:=Big.V f k) (by rw [<- e3];exact HV.out)
          rw [<- e5]
          exact gN
       case measure=>simp [intOf];omega
  . obtain rfl:k=n:=by omega
    have T:=Big.trim_any (R'.sl0 (by unfold maxLen;omega))
    have NV:=(R'.sl0 (by unfold maxLen;omega)).trimmed
    rw [HV.out] at NV
    clear R'
    go_wp2_with fail
    refine T.mono ?_
    rintro e wa ⟨rfl,rfl⟩
    go_wp2
    go_ret
    exact ⟨_,rfl,NV,hbl⟩
theorem dB {w:World}{va vb:Value}{X Y:Nat}(ha:Big.NatV w va X) (hb:Big.NatV w vb Y) (hX:Fits 1000 X) (hY:Fits 1000 Y) :
 Calls Tryz.prog 103 #[va,vb] w fun e w'=>∃ v,e=.returned v/\Big.NatV w' v (X * Y)/\Bl w w':=by
 obtain ⟨ao,n,c,b,o,f,rfl,S,t,rfl⟩:=ha
 obtain ⟨bo,m,cb,bb,ob,g,rfl,S',t',rfl⟩:=hb
 exact yH S S' (bB t hX) (bB t' hY)
theorem pV (c:Bool) {m:Nat}{p:Int}(m0:((m:Int) == 0)=false) (q0:¬ p < -4000) (q:4000<p) (w:World):Cb 114 #[.agg #[.bool c,vI 2,vU (m:Int),vI p],vI 32] w (.tuple #[vU 0,vI 4]):=by
 have HS:=fun W=>eV W
 have HF:=fun W=>gJ W
 go_enter Tryz.func114,Tryz.ntmps114
 go_wp2_with fail
 refine (HS _).mono ?_
 rintro e w1 ⟨rfl,hh⟩
 subst hh
 go_wp2
 go_region_held3 (fun w'=>w'.cell? ⟨w.heap.size,2,none⟩=some (vU (m:Int))/\w'.cell? ⟨w.heap.size,3,none⟩=some (vI p)) (simp [*,go_sem]) (fail)
 go_wp2_with fail
 refine (HF _).mono ?_
 rintro e w1 ⟨rfl,hh⟩
 subst hh
 go_wp2
 go_ret2
 exact ⟨rfl,(bz _ _).drew⟩
theorem pW (c:Bool) {m:Nat}{p:Int}(m0:((m:Int) == 0)=false) (q0:¬ p < -4000) (q:4000<p) (w:World):Cb 114 #[.agg #[.bool c,vI 2,vU (m:Int),vI p],vI 64] w (.tuple #[vU 0,vI 4]):=by
 have HS:=fun W=>gL W
 have HF:=fun W=>gK W
 go_enter Tryz.func114,Tryz.ntmps114
 go_wp2_with fail
 refine (HS _).mono ?_
 rintro e w1 ⟨rfl,hh⟩
 subst hh
 go_wp2
 go_region_held3 (fun w'=>w'.cell? ⟨w.heap.size,2,none⟩=some (vU (m:Int))/\w'.cell? ⟨w.heap.size,3,none⟩=some (vI p)) (simp [*,go_sem]) (fail)
 go_wp2_with fail
 refine (HF _).mono ?_
 rintro e w1 ⟨rfl,hh⟩
 subst hh
 go_wp2
 go_ret2
 exact ⟨rfl,(bz _ _).drew⟩
theorem pR {F D:Nat}(hF:F<255) (hD:D<8388608):bits BinOp.or IntKind.u64 ((F:Int) * 8388608) (D:Int)=((F * 8388608+D:Nat):Int):=by
 have e:=u64_or_nat (F * 8388608) D (by omega) (by omega)
 have k:(2:Nat) ^ 23=8388608:=by decide
 have j:=nat_join 23 (F * 8388608) D (by rw [k];exact Nat.mul_mod_left F 8388608) (by rw [k];exact hD)
 rw [j] at e
 rw [show ((F:Int) * 8388608)=((F * 8388608:Nat):Int) by omega]
 exact e
theorem pS {F D:Nat}(hF:F<2047) (hD:D<4503599627370496):bits BinOp.or IntKind.u64 ((F:Int) * 4503599627370496) (D:Int)=((F * 4503599627370496+D:Nat):Int):=by
 have e:=u64_or_nat (F * 4503599627370496) D (by omega) (by omega)
 have k:(2:Nat) ^ 52=4503599627370496:=by decide
 have j:=nat_join 52 (F * 4503599627370496) D (by rw [k];exact Nat.mul_mod_left F 4503599627370496) (by rw [k];exact hD)
 rw [j] at e
 rw [show ((F:Int) * 4503599627370496)=((F * 4503599627370496:Nat):Int) by omega]
 exact e
theorem cJ {a:Nat}(h:a<18446744073709551616):bits BinOp.and IntKind.u64 (a:Int) 1=((a % 2:Nat):Int):=by
 have e:=u64_and_nat a 1 h (by decide)
 rw [show ((1:Nat):Int)=1 from rfl] at e
 rw [e,nat_mask1]
def rpV (g:Nat) (c:Bool):Option Nat -> Value
 | none=>.tuple #[vU 0,vI 4]
 | some b=>.tuple #[vU ((sgd g c b:Nat):Int),vI 0]
theorem pX (c:Bool) {m:Nat}{p:Int}(hm:m<18446744073709551616) (m0:m ≠ 0) (h0:¬ p < -4000) (h1:¬ 4000<p) (w:World):Cb 114 #[.agg #[.bool c,vI 2,vU (m:Int),vI p],vI 32] w (rpV 2147483648 c (pk 23 255 (-149) m p)):=by
 have n0:((m:Int) == 0)=false:=by simp;omega
 have HS:=fun W=>eV W
 have HF:=fun W=>gJ W
 have HL:=fun W=>rK W
 have HT:=fun W=>rO W
 have M0:Hid (m ≠ 0):=m0
 have HM0:Hid (m<18446744073709551616):=hm
 clear m0 hm
 go_enter Tryz.func114,Tryz.ntmps114
 go_wp2_with fail
 refine (HS _).mono ?_
 rintro e w1 ⟨rfl,hh⟩
 subst hh
 go_wp2
 go_region_held3 (fun w'=>w'.cell? ⟨w.heap.size,2,none⟩=some (vU (m:Int))/\w'.cell? ⟨w.heap.size,3,none⟩=some (vI p)) (simp [*,go_sem]) (fail)
 go_wp2_with fail
 refine (HF _).mono ?_
 rintro e w1 ⟨rfl,hh⟩
 subst hh
 go_wp2
 go_loop [6,7] (fun M X=>∃ (a k:Nat),M=vU (a:Int)/\X=vI (p+(k:Int))/\Hid (m=a * 2 ^ k)) (fun M _=>(intOf M).toNat)
 case atStart=>exact ⟨m,0,rfl,by simp,by show m=m * 2 ^ 0;simp⟩
 case round =>
  obtain ⟨a,k,rfl,rfl,HK⟩:=hrel
  have ha0:a ≠ 0:=by
   rintro rfl
   have:=HK.out
   rw [Nat.zero_mul] at this
   exact M0.out this
  have ha1:a<18446744073709551616:=by
   have:=HK.out
   have:=Nat.le_mul_of_pos_right a (Nat.two_pow_pos k)
   have:=HM0.out
   omega
  have hk:k<64:=by
   have e:=HK.out
   have l:=Nat.le_mul_of_pos_left (2 ^ k) (Nat.pos_of_ne_zero ha0)
   have u:=HM0.out
   exact (Nat.pow_lt_pow_iff_right (show 1<2 by decide)).1 (show 2 ^ k<2 ^ 64 by omega)
  obtain ⟨E,hE⟩:∃ E,E=p+(k:Int):=⟨_,rfl⟩
  have hE0:-4000<=E:=by omega
  have hE1:E<=4100:=by omega
  have HQ:Hid (Eqv m p a E):=by
   refine Eqv.of_dn (by omega) ?_
   rw [show (E - p).toNat=k by omega]
   exact HK.out
  rw [<- hE]
  have HE:Hid (E=p+(k:Int)):=hE
  clear hE hk
  have ways:(a % 2=0/\16777216<=a) \/ (a % 2=0/\a<16777216/\E<(-149)) \/ a % 2=1 \/ (a % 2=0/\a<16777216/\(-149)<=E):=by omega
  rcases ways with ⟨o,g⟩ | ⟨o,g,g2⟩ | ways
  . have e1:bits BinOp.and IntKind.u64 (a:Int) 1=0:=by rw [cJ ha1,o];rfl
    have e2:((a:Int) / 16777216 != 0)=true:=by simp;omega
    go_wp2
    go_round
    case rel=>exact ⟨a / 2,k+1,by go_num,by rw [HE.out];go_num,by show m=a / 2 * 2 ^ (k+1);rw [HK.out,Nat.pow_succ,Nat.mul_comm (2 ^ k) 2,<- Nat.mul_assoc,show a / 2 * 2=a by omega]⟩
    case measure=>simp [intOf];omega
  . have e1:bits BinOp.and IntKind.u64 (a:Int) 1=0:=by rw [cJ ha1,o];rfl
    have e2:((a:Int) / 16777216 != 0)=false:=by simp;omega
    go_wp2_with fail
    refine (HL _).mono ?_
    rintro e w1 ⟨rfl,hh⟩
    subst hh
    go_wp2
    go_round
    case rel=>exact ⟨a / 2,k+1,by go_num,by rw [HE.out];go_num,by show m=a / 2 * 2 ^ (k+1);rw [HK.out,Nat.pow_succ,Nat.mul_comm (2 ^ k) 2,<- Nat.mul_assoc,show a / 2 * 2=a by omega]⟩
    case measure=>simp [intOf];omega
  have HM:Hid (Mid 23 (-149) a E):=by
   rcases ways with o | ⟨_,g,g2⟩
   . exact .inl o
   . exact .inr ⟨by show a<16777216;omega,by omega⟩
  clear HK HE
  rcases ways with oA | ⟨oB,g,g2⟩
  all_goals first
   | (have e1:bits BinOp.and IntKind.u64 (a:Int) 1=1:=(by rw [cJ ha1,oA];rfl);clear oA;go_wp2)
   | (have e1:bits BinOp.and IntKind.u64 (a:Int) 1=0:=(by rw [cJ ha1,oB];rfl);have e2:((a:Int) / 16777216 != 0)=false:=(by simp;omega);clear oB;go_wp2_with fail;refine (HL _).mono ?_;rintro e w1 ⟨rfl,hh⟩;subst hh;go_wp2)
  all_goals
   go_loop [6,7] (fun M X=>∃ (b:Nat) (G:Int),M=vU (b:Int)/\X=vI G/\Hid (Eqv m p b G)/\Hid (Mid 23 (-149) b G)/\b ≠ 0/\b<18446744073709551616 /\ -5000<=G/\G<=5000) (fun _ X=>(intOf X+149).toNat)
   case atStart=>exact ⟨a,E,rfl,rfl,HQ.out,HM.out,ha0,ha1,by omega,by omega⟩
   case round =>
    clear ha0 ha1 hE0 hE1 HQ HM
    obtain ⟨b,G,rfl,rfl,HQ2,HM2,hb0,hb1,hG0,hG1⟩:=hrel
    have HPK:(b<8388608 -> (-149)<G -> False) -> Hid (pk 23 255 (-149) m p=out 23 255 (-149) b G):=fun x=>by
     show _=_
     rw [lS M0.out HQ2.out,kU hb0 ⟨fun y=>x y.1 y.2,HM2.out⟩]
    by_cases c1:b<8388608
    . have d1:((b:Int) / 8388608 == 0)=true:=by simp;omega
      have d2:((b:Int) / 16777216 != 0)=false:=by simp;omega
      have d3:((b:Int) / 8388608 != 0)=false:=by simp;omega
      by_cases c2:(-149)<G
      . clear HPK
        go_wp2_with fail
        refine (HL _).mono ?_
        rintro e w1 ⟨rfl,hh⟩
        subst hh
        go_wp2
        go_round
        case rel=>exact ⟨b * 2,G - 1,by go_num,rfl,HQ2.out.trans (Eqv.twice b G),Mid.step ⟨c1,c2⟩,by omega,by omega,by omega,by omega⟩
        case measure=>simp [intOf];omega
      . have HPK2:=HPK fun x y=>c2 y
        clear HPK
        by_cases c3:G<(-149)
        . have HV:Hid (pk 23 255 (-149) m p=none):=by show _=_;rw [HPK2.out,cP (.inr c3)]
          clear HPK2 HQ2 HM2
          go_wp2_with fail
          refine (HL _).mono ?_
          rintro e w1 ⟨rfl,hh⟩
          subst hh
          go_wp2_with fail
          refine (HL _).mono ?_
          rintro e w1 ⟨rfl,hh⟩
          subst hh
          go_wp2_with fail
          refine (HL _).mono ?_
          rintro e w1 ⟨rfl,hh⟩
          subst hh
          go_wp2
          go_ret2
          exact ⟨by rw [HV.out];rfl,(bz _ _).drew⟩
        . have hG:G=(-149):=by omega
          have HV:Hid (pk 23 255 (-149) m p=some b):=by
           show _=_
           rw [HPK2.out]
           unfold out
           rw [if_neg (by rintro (x | x | ⟨x,y⟩) <;> omega),if_pos c1]
          have HG:=fun W=>kZ (x:=b) (by omega) c W
          subst hG
          clear HPK2 HQ2 HM2 c3
          go_wp2_with fail
          refine (HL _).mono ?_
          rintro e w1 ⟨rfl,hh⟩
          subst hh
          go_wp2_with fail
          refine (HL _).mono ?_
          rintro e w1 ⟨rfl,hh⟩
          subst hh
          go_wp2_with fail
          refine (HL _).mono ?_
          rintro e w1 ⟨rfl,hh⟩
          subst hh
          go_wp2_with fail
          refine (HG _).mono ?_
          rintro e w1 ⟨rfl,hh⟩
          subst hh
          go_wp2
          go_ret2
          exact ⟨by rw [HV.out];rfl,(bz _ _).drew⟩
    . have d1:((b:Int) / 8388608 == 0)=false:=by simp;omega
      have d3:((b:Int) / 8388608 != 0)=true:=by simp;omega
      have HPK2:=HPK fun x y=>c1 x
      clear HPK
      by_cases c2:16777216<=b
      . have d2:((b:Int) / 16777216 != 0)=true:=by simp;omega
        have HV:Hid (pk 23 255 (-149) m p=none):=by show _=_;rw [HPK2.out,cP (.inl c2)]
        clear HPK2 HQ2 HM2
        go_wp2_with fail
        refine (HL _).mono ?_
        rintro e w1 ⟨rfl,hh⟩
        subst hh
        go_wp2
        go_ret2
        exact ⟨by rw [HV.out];rfl,(bz _ _).drew⟩
      . have d2:((b:Int) / 16777216 != 0)=false:=by simp;omega
        by_cases c3:G<(-149)
        . have HV:Hid (pk 23 255 (-149) m p=none):=by show _=_;rw [HPK2.out,cP (.inr c3)]
          clear HPK2 HQ2 HM2
          go_wp2_with fail
          refine (HL _).mono ?_
          rintro e w1 ⟨rfl,hh⟩
          subst hh
          go_wp2_with fail
          refine (HL _).mono ?_
          rintro e w1 ⟨rfl,hh⟩
          subst hh
          go_wp2
          go_ret2
          exact ⟨by rw [HV.out];rfl,(bz _ _).drew⟩
        . by_cases c4:255<=G+149+1
          . have HV:Hid (pk 23 255 (-149) m p=none):=by
             show _=_
             rw [HPK2.out]
             unfold out
             rw [if_pos (.inr (.inr ⟨by show 8388608<=b;omega,by omega⟩))]
            clear HPK2 HQ2 HM2
            go_wp2_with fail
            refine (HL _).mono ?_
            rintro e w1 ⟨rfl,hh⟩
            subst hh
            go_wp2_with fail
            refine (HL _).mono ?_
            rintro e w1 ⟨rfl,hh⟩
            subst hh
            go_wp2_with fail
            refine (HT _).mono ?_
            rintro e w1 ⟨rfl,hh⟩
            subst hh
            go_wp2
            go_ret2
            exact ⟨by rw [HV.out];rfl,(bz _ _).drew⟩
          . obtain ⟨F,hF⟩:∃ F:Nat,G+149+1=(F:Int):=⟨(G+149+1).toNat,by omega⟩
            have HV:Hid (pk 23 255 (-149) m p=some (F * 8388608+(b - 8388608))):=by
             show _=_
             rw [HPK2.out]
             unfold out
             rw [if_neg (by rintro (x | x | ⟨x,y⟩) <;> omega),if_neg c1,show (G - (-149)+1).toNat=F by omega]
            have hM:=fC (m:=b) (by omega)
            have hR:b % 8388608=b - 8388608:=by omega
            rw [hR] at hM
            have hO:=pR (F:=F) (D:=b - 8388608) (by omega) (by omega)
            have c5:¬ 255<=F:=by omega
            have HG:=fun W=>kZ (x:=F * 8388608+(b - 8388608)) (by omega) c W
            generalize b - 8388608=D at *
            generalize F * 8388608+D=Z at *
            clear HPK2 HQ2 HM2 hR
            go_wp2_with fail
            refine (HL _).mono ?_
            rintro e w1 ⟨rfl,hh⟩
            subst hh
            go_wp2_with fail
            refine (HL _).mono ?_
            rintro e w1 ⟨rfl,hh⟩
            subst hh
            go_wp2_with fail
            refine (HT _).mono ?_
            rintro e w1 ⟨rfl,hh⟩
            subst hh
            go_wp2_with fail
            refine (HG _).mono ?_
            rintro e w1 ⟨rfl,hh⟩
            subst hh
            go_wp2
            go_ret2
            exact ⟨by rw [HV.out];rfl,(bz _ _).drew⟩
theorem pY (c:Bool) {m:Nat}{p:Int}(hm:m<18446744073709551616) (m0:m ≠ 0) (h0:¬ p < -4000) (h1:¬ 4000<p) (w:World):Cb 114 #[.agg #[.bool c,vI 2,vU (m:Int),vI p],vI 64] w (rpV 9223372036854775808 c (pk 52 2047 (-1074) m p)):=by
 have n0:((m:Int) == 0)=false:=by simp;omega
 have HS:=fun W=>gL W
 have HF:=fun W=>gK W
 have HL:=fun W=>rL W
 have HT:=fun W=>rP W
 have M0:Hid (m ≠ 0):=m0
 have HM0:Hid (m<18446744073709551616):=hm
 clear m0 hm
 go_enter Tryz.func114,Tryz.ntmps114
 go_wp2_with fail
 refine (HS _).mono ?_
 rintro e w1 ⟨rfl,hh⟩
 subst hh
 go_wp2
 go_region_held3 (fun w'=>w'.cell? ⟨w.heap.size,2,none⟩=some (vU (m:Int))/\w'.cell? ⟨w.heap.size,3,none⟩=some (vI p)) (simp [*,go_sem]) (fail)
 go_wp2_with fail
 refine (HF _).mono ?_
 rintro e w1 ⟨rfl,hh⟩
 subst hh
 go_wp2
 go_loop [6,7] (fun M X=>∃ (a k:Nat),M=vU (a:Int)/\X=vI (p+(k:Int))/\Hid (m=a * 2 ^ k)) (fun M _=>(intOf M).toNat)
 case atStart=>exact ⟨m,0,rfl,by simp,by show m=m * 2 ^ 0;simp⟩
 case round =>
  obtain ⟨a,k,rfl,rfl,HK⟩:=hrel
  have ha0:a ≠ 0:=by
   rintro rfl
   have:=HK.out
   rw [Nat.zero_mul] at this
   exact M0.out this
  have ha1:a<18446744073709551616:=by
   have:=HK.out
   have:=Nat.le_mul_of_pos_right a (Nat.two_pow_pos k)
   have:=HM0.out
   omega
  have hk:k<64:=by
   have e:=HK.out
   have l:=Nat.le_mul_of_pos_left (2 ^ k) (Nat.pos_of_ne_zero ha0)
   have u:=HM0.out
   exact (Nat.pow_lt_pow_iff_right (show 1<2 by decide)).1 (show 2 ^ k<2 ^ 64 by omega)
  obtain ⟨E,hE⟩:∃ E,E=p+(k:Int):=⟨_,rfl⟩
  have hE0:-4000<=E:=by omega
  have hE1:E<=4100:=by omega
  have HQ:Hid (Eqv m p a E):=by
   refine Eqv.of_dn (by omega) ?_
   rw [show (E - p).toNat=k by omega]
   exact HK.out
  rw [<- hE]
  have HE:Hid (E=p+(k:Int)):=hE
  clear hE hk
  have ways:(a % 2=0/\9007199254740992<=a) \/ (a % 2=0/\a<9007199254740992/\E<(-1074)) \/ a % 2=1 \/ (a % 2=0/\a<9007199254740992/\(-1074)<=E):=by omega
  rcases ways with ⟨o,g⟩ | ⟨o,g,g2⟩ | ways
  . have e1:bits BinOp.and IntKind.u64 (a:Int) 1=0:=by rw [cJ ha1,o];rfl
    have e2:((a:Int) / 9007199254740992 != 0)=true:=by simp;omega
    go_wp2
    go_round
    case rel=>exact ⟨a / 2,k+1,by go_num,by rw [HE.out];go_num,by show m=a / 2 * 2 ^ (k+1);rw [HK.out,Nat.pow_succ,Nat.mul_comm (2 ^ k) 2,<- Nat.mul_assoc,show a / 2 * 2=a by omega]⟩
    case measure=>simp [intOf];omega
  . have e1:bits BinOp.and IntKind.u64 (a:Int) 1=0:=by rw [cJ ha1,o];rfl
    have e2:((a:Int) / 9007199254740992 != 0)=false:=by simp;omega
    go_wp2_with fail
    refine (HL _).mono ?_
    rintro e w1 ⟨rfl,hh⟩
    subst hh
    go_wp2
    go_round
    case rel=>exact ⟨a / 2,k+1,by go_num,by rw [HE.out];go_num,by show m=a / 2 * 2 ^ (k+1);rw [HK.out,Nat.pow_succ,Nat.mul_comm (2 ^ k) 2,<- Nat.mul_assoc,show a / 2 * 2=a by omega]⟩
    case measure=>simp [intOf];omega
  have HM:Hid (Mid 52 (-1074) a E):=by
   rcases ways with o | ⟨_,g,g2⟩
   . exact .inl o
   . exact .inr ⟨by show a<9007199254740992;omega,by omega⟩
  clear HK HE
  rcases ways with oA | ⟨oB,g,g2⟩
  all_goals first
   | (have e1:bits BinOp.and IntKind.u64 (a:Int) 1=1:=(by rw [cJ ha1,oA];rfl);clear oA;go_wp2)
   | (have e1:bits BinOp.and IntKind.u64 (a:Int) 1=0:=(by rw [cJ ha1,oB];rfl);have e2:((a:Int) / 9007199254740992 != 0)=false:=(by simp;omega);clear oB;go_wp2_with fail;refine (HL _).mono ?_;rintro e w1 ⟨rfl,hh⟩;subst hh;go_wp2)
  all_goals
   go_loop [6,7] (fun M X=>∃ (b:Nat) (G:Int),M=vU (b:Int)/\X=vI G/\Hid (Eqv m p b G)/\Hid (Mid 52 (-1074) b G)/\b ≠ 0/\b<18446744073709551616 /\ -5000<=G/\G<=5000) (fun _ X=>(intOf X+1074).toNat)
   case atStart=>exact ⟨a,E,rfl,rfl,HQ.out,HM.out,ha0,ha1,by omega,by omega⟩
   case round =>
    clear ha0 ha1 hE0 hE1 HQ HM
    obtain ⟨b,G,rfl,rfl,HQ2,HM2,hb0,hb1,hG0,hG1⟩:=hrel
    have HPK:(b<4503599627370496 -> (-1074)<G -> False) -> Hid (pk 52 2047 (-1074) m p=out 52 2047 (-1074) b G):=fun x=>by
     show _=_
     rw [lS M0.out HQ2.out,kU hb0 ⟨fun y=>x y.1 y.2,HM2.out⟩]
    by_cases c1:b<4503599627370496
    . have d1:((b:Int) / 4503599627370496 == 0)=true:=by simp;omega
      have d2:((b:Int) / 9007199254740992 != 0)=false:=by simp;omega
      have d3:((b:Int) / 4503599627370496 != 0)=false:=by simp;omega
      by_cases c2:(-1074)<G
      . clear HPK
        go_wp2_with fail
        refine (HL _).mono ?_
        rintro e w1 ⟨rfl,hh⟩
        subst hh
        go_wp2
        go_round
        case rel=>exact ⟨b * 2,G - 1,by go_num,rfl,HQ2.out.trans (Eqv.twice b G),Mid.step ⟨c1,c2⟩,by omega,by omega,by omega,by omega⟩
        case measure=>simp [intOf];omega
      . have HPK2:=HPK fun x y=>c2 y
        clear HPK
        by_cases c3:G<(-1074)
        . have HV:Hid (pk 52 2047 (-1074) m p=none):=by show _=_;rw [HPK2.out,cP (.inr c3)]
          clear HPK2 HQ2 HM2
          go_wp2_with fail
          refine (HL _).mono ?_
          rintro e w1 ⟨rfl,hh⟩
          subst hh
          go_wp2_with fail
          refine (HL _).mono ?_
          rintro e w1 ⟨rfl,hh⟩
          subst hh
          go_wp2_with fail
          refine (HL _).mono ?_
          rintro e w1 ⟨rfl,hh⟩
          subst hh
          go_wp2
          go_ret2
          exact ⟨by rw [HV.out];rfl,(bz _ _).drew⟩
        . have hG:G=(-1074):=by omega
          have HV:Hid (pk 52 2047 (-1074) m p=some b):=by
           show _=_
           rw [HPK2.out]
           unfold out
           rw [if_neg (by rintro (x | x | ⟨x,y⟩) <;> omega),if_pos c1]
          have HG:=fun W=>lA (x:=b) (by omega) c W
          subst hG
          clear HPK2 HQ2 HM2 c3
          go_wp2_with fail
          refine (HL _).mono ?_
          rintro e w1 ⟨rfl,hh⟩
          subst hh
          go_wp2_with fail
          refine (HL _).mono ?_
          rintro e w1 ⟨rfl,hh⟩
          subst hh
          go_wp2_with fail
          refine (HL _).mono ?_
          rintro e w1 ⟨rfl,hh⟩
          subst hh
          go_wp2_with fail
          refine (HG _).mono ?_
          rintro e w1 ⟨rfl,hh⟩
          subst hh
          go_wp2
          go_ret2
          exact ⟨by rw [HV.out];rfl,(bz _ _).drew⟩
    . have d1:((b:Int) / 4503599627370496 == 0)=false:=by simp;omega
      have d3:((b:Int) / 4503599627370496 != 0)=true:=by simp;omega
      have HPK2:=HPK fun x y=>c1 x
      clear HPK
      by_cases c2:9007199254740992<=b
      . have d2:((b:Int) / 9007199254740992 != 0)=true:=by simp;omega
        have HV:Hid (pk 52 2047 (-1074) m p=none):=by show _=_;rw [HPK2.out,cP (.inl c2)]
        clear HPK2 HQ2 HM2
        go_wp2_with fail
        refine (HL _).mono ?_
        rintro e w1 ⟨rfl,hh⟩
        subst hh
        go_wp2
        go_ret2
        exact ⟨by rw [HV.out];rfl,(bz _ _).drew⟩
      . have d2:((b:Int) / 9007199254740992 != 0)=false:=by simp;omega
        by_cases c3:G<(-1074)
        . have HV:Hid (pk 52 2047 (-1074) m p=none):=by show _=_;rw [HPK2.out,cP (.inr c3)]
          clear HPK2 HQ2 HM2
          go_wp2_with fail
          refine (HL _).mono ?_
          rintro e w1 ⟨rfl,hh⟩
          subst hh
          go_wp2_with fail
          refine (HL _).mono ?_
          rintro e w1 ⟨rfl,hh⟩
          subst hh
          go_wp2
          go_ret2
          exact ⟨by rw [HV.out];rfl,(bz _ _).drew⟩
        . by_cases c4:2047<=G+1074+1
          . have HV:Hid (pk 52 2047 (-1074) m p=none):=by
             show _=_
             rw [HPK2.out]
             unfold out
             rw [if_pos (.inr (.inr ⟨by show 4503599627370496<=b;omega,by omega⟩))]
            clear HPK2 HQ2 HM2
            go_wp2_with fail
            refine (HL _).mono ?_
            rintro e w1 ⟨rfl,hh⟩
            subst hh
            go_wp2_with fail
            refine (HL _).mono ?_
            rintro e w1 ⟨rfl,hh⟩
            subst hh
            go_wp2_with fail
            refine (HT _).mono ?_
            rintro e w1 ⟨rfl,hh⟩
            subst hh
            go_wp2
            go_ret2
            exact ⟨by rw [HV.out];rfl,(bz _ _).drew⟩
          . obtain ⟨F,hF⟩:∃ F:Nat,G+1074+1=(F:Int):=⟨(G+1074+1).toNat,by omega⟩
            have HV:Hid (pk 52 2047 (-1074) m p=some (F * 4503599627370496+(b - 4503599627370496))):=by
             show _=_
             rw [HPK2.out]
             unfold out
             rw [if_neg (by rintro (x | x | ⟨x,y⟩) <;> omega),if_neg c1,show (G - (-1074)+1).toNat=F by omega]
            have hM:=fF (m:=b) (by omega)
            have hR:b % 4503599627370496=b - 4503599627370496:=by omega
            rw [hR] at hM
            have hO:=pS (F:=F) (D:=b - 4503599627370496) (by omega) (by omega)
            have c5:¬ 2047<=F:=by omega
            have HG:=fun W=>lA (x:=F * 4503599627370496+(b - 4503599627370496)) (by omega) c W
            generalize b - 4503599627370496=D at *
            generalize F * 4503599627370496+D=Z at *
            clear HPK2 HQ2 HM2 hR
            go_wp2_with fail
            refine (HL _).mono ?_
            rintro e w1 ⟨rfl,hh⟩
            subst hh
            go_wp2_with fail
            refine (HL _).mono ?_
            rintro e w1 ⟨rfl,hh⟩
            subst hh
            go_wp2_with fail
            refine (HT _).mono ?_
            rintro e w1 ⟨rfl,hh⟩
            subst hh
            go_wp2_with fail
            refine (HG _).mono ?_
            rintro e w1 ⟨rfl,hh⟩
            subst hh
            go_wp2
            go_ret2
            exact ⟨by rw [HV.out];rfl,(bz _ _).drew⟩
def Fz (s:Int) (g n f T:Nat) (L:Int):Prop :=
 (s=32/\g=2147483648/\n=2139095040/\f=23/\T=255/\L = -149) \/ (s=64/\g=9223372036854775808/\n=9218868437227405312/\f=52/\T=2047/\L = -1074)
theorem aA4 (X:Nat):bl X=ln X:=rfl
theorem tX (w:World):Cs 106 #[vI 32] w (.tuple #[vI 24,vI (-149)]):=by
 go_enter Tryz.func106,Tryz.ntmps106
 go_wp2
 go_ret2
 exact ⟨rfl,rfl⟩
theorem tY (w:World):Cs 106 #[vI 64] w (.tuple #[vI 53,vI (-1074)]):=by
 go_enter Tryz.func106,Tryz.ntmps106
 go_wp2
 go_ret2
 exact ⟨rfl,rfl⟩
theorem xM {s:Int}{g n f T:Nat}{L:Int}(h:Fz s g n f T L) (w:World):Cs 106 #[vI s] w (.tuple #[vI ((f:Int)+1),vI L]):=by
 rcases h with ⟨rfl,rfl,rfl,rfl,rfl,rfl⟩ | ⟨rfl,rfl,rfl,rfl,rfl,rfl⟩
 . exact tX w
 . exact tY w
theorem aDt {s:Int}{g n f T:Nat}{L:Int}(h:Fz s g n f T L) (w:World):Cs 116 #[vI s] w (vU ((T * 2 ^ f:Nat):Int)):=by
 rcases h with ⟨rfl,rfl,rfl,rfl,rfl,rfl⟩ | ⟨rfl,rfl,rfl,rfl,rfl,rfl⟩
 . exact aB4 w
 . exact aB5 w
theorem aCe {s:Int}{g n f T:Nat}{L:Int}(h:Fz s g n f T L) (c:Bool) {m:Nat}{p:Int}(hm:m<18446744073709551616) (m0:m ≠ 0) (hp:-4000<=p) (w:World):Cb 114 #[.agg #[.bool c,vI 2,vU (m:Int),vI p],vI s] w (rpV g c (pk f (T:Int) L m p)):=by
 have n0:((m:Int) == 0)=false:=by simp;omega
 rcases h with ⟨rfl,rfl,rfl,rfl,rfl,rfl⟩ | ⟨rfl,rfl,rfl,rfl,rfl,rfl⟩
 . by_cases q:4000<p
   . rw [show (((255:Nat):Int))=255 from rfl,rD (f:=23) (t:=255) (L:=(-149)) (by decide) m0 (by omega)]
     exact pV c n0 (by omega) q w
   . exact pX c hm m0 (by omega) q w
 . by_cases q:4000<p
   . rw [show (((2047:Nat):Int))=2047 from rfl,rD (f:=52) (t:=2047) (L:=(-1074)) (by decide) m0 (by omega)]
     exact pW c n0 (by omega) q w
   . exact pY c hm m0 (by omega) q w
theorem uV {w:World}{v:Value}{X:Nat}(h:Big.NatV w v X):∃ ao n c,v=.slice ao n c/\(n=0 ↔ X=0):=by
 obtain ⟨ao,n,c,b,o,f,rfl,S,t,rfl⟩:=h
 refine ⟨ao,n,c,rfl,⟨fun z=>by subst z;rfl,fun z=>?_⟩⟩
 apply Nat.eq_zero_of_not_pos
 intro p
 have a:=Big.Top_ge t p
 have:=Nat.pow_pos (n:=n - 1) Big.B_pos
 omega
theorem jN {k X s:Nat}(h:Fits k X):Fits (k+(s / 32+1)) (X * 2 ^ s):=h.mul (aZ (by omega))
theorem aCC {X Y:Nat}{E:Int}(h:0<=E) {e:Nat}(he:E=(e:Int)):dG X Y E=decide (X<Y * 2 ^ e):=by
 subst he
 unfold dG
 rw [show (-(e:Int)).toNat=0 from by omega,Int.toNat_natCast,Nat.pow_zero,Nat.mul_one]
theorem aCB {X Y:Nat}{E:Int}{e:Nat}(he:E = -(e:Int)):dG X Y E=decide (X * 2 ^ e<Y):=by
 subst he
 unfold dG
 rw [show (-(e:Int)).toNat=0 from by omega,show (- -(e:Int)).toNat=e from by omega,Nat.pow_zero,Nat.mul_one]
theorem kS (X Y:Nat):decide (ord X Y<0)=decide (X<Y):=by
 unfold ord
 rcases Nat.lt_trichotomy X Y with c | c | c
 . simp [c]
 . subst c;simp
 . simp [Nat.not_lt_of_lt c,c]
theorem xF {w:World}{vn vd:Value}{X Y:Nat}{E:Int}(hn:Big.NatV w vn X) (hd:Big.NatV w vd Y) (fX:Fits 300 X) (fY:Fits 300 Y) (h0:-9000<=E) (h1:E<=9000):Cb 108 #[vn,vd,vI E] w (.bool (dG X Y E)):=by
 by_cases c:0<=E
 . obtain ⟨k,rfl⟩:∃ k:Nat,E=(k:Int):=⟨E.toNat,by omega⟩
   rw [aCC c rfl,<- kS]
   obtain ⟨q,hq⟩:∃ q,ord X (Y * 2 ^ k)=q:=⟨_,rfl⟩
   rw [hq]
   have HQ:Hid _:=hq
   have T:=iL hd (fY.up (by omega)) k (by omega)
   have H0:Hid (Big.NatV w vn X):=hn
   clear hn hd fX fY h0 h1 c hq
   go_enter Tryz.func108,Tryz.ntmps108
   go_wp2_with fail
   refine T.mono ?_
   rintro e w1 ⟨v,rfl,n1,b1⟩
   have T2:=gD (H0.out.below b1) n1
   have B1:Hid (Bl w w1):=b1
   rw [HQ.out] at T2
   clear n1 b1 T
   go_wp2_with fail
   refine T2.mono ?_
   rintro e w2 ⟨rfl,b2⟩
   have B2:Hid (Bl w w2):=B1.out.trans (b2.mono B1.out.size)
   clear b2 T2
   go_wp2
   go_ret
   exact ⟨rfl,B2.out⟩
 . obtain ⟨k,ek⟩:∃ k:Nat,(k:Int) = -E:=⟨(-E).toNat,by omega⟩
   rw [aCB (e:=k) (by omega),<- kS]
   obtain ⟨q,hq⟩:∃ q,ord (X * 2 ^ k) Y=q:=⟨_,rfl⟩
   rw [hq]
   have HQ:Hid _:=hq
   have T:=iL hn (fX.up (by omega)) k (by omega)
   rw [ek] at T
   have H0:Hid (Big.NatV w vd Y):=hd
   have k0:E<0:=by omega
   clear hn hd fX fY h1 c ek hq
   go_enter Tryz.func108,Tryz.ntmps108
   go_wp2_with fail
   refine T.mono ?_
   rintro e w1 ⟨v,rfl,n1,b1⟩
   have T2:=gD n1 (H0.out.below b1)
   have B1:Hid (Bl w w1):=b1
   rw [HQ.out] at T2
   clear n1 b1 T
   go_wp2_with fail
   refine T2.mono ?_
   rintro e w2 ⟨rfl,b2⟩
   have B2:Hid (Bl w w2):=B1.out.trans (b2.mono B1.out.size)
   clear b2 T2
   go_wp2
   go_ret
   exact ⟨rfl,B2.out⟩
theorem aAI {s:Int}{g n f T:Nat}{L:Int}(hz:Fz s g n f T L) {w:World}{vn vd:Value}{X Y:Nat}{e:Int}(more:Bool) (hn:Big.NatV w vn X) (hd:Big.NatV w vd Y) (fX:Fits 256 X) (fY:Fits 256 Y) (x0:X ≠ 0) (y0:Y ≠ 0) (h0:-20000<=e) (h1:e<=20000):Cb 77 #[vI s,vn,vd,vI e,.bool more] w (.tuple #[vU (((rdA f T L X Y e more).1:Nat):Int),.bool (rdA f T L X Y e more).2]):=by
 have HF:=fun W=>xM hz W
 have L1:=eA hn (fX.up (by omega))
 have L2:=eA hd (fY.up (by omega))
 have bX:=iO fX
 have bY:=iO fY
 have TB:=xF (E:=(bl X:Int) - (bl Y:Int)) hn hd (fX.up (by omega)) (fY.up (by omega)) (by omega) (by omega)
 obtain ⟨E,hE⟩:∃ E,fE X Y=E:=⟨_,rfl⟩
 have eE:(dG X Y ((bl X:Int) - (bl Y:Int))=true/\(bl X:Int) - (bl Y:Int) - 1=E) \/ (dG X Y ((bl X:Int) - (bl Y:Int))=false/\(bl X:Int) - (bl Y:Int)=E):=by
  rw [<- hE]
  unfold fE
  rw [aA4,aA4]
  cases h:dG X Y ((ln X:Int) - (ln Y:Int))
  . right;exact ⟨rfl,by simp⟩
  . left;exact ⟨rfl,by simp⟩
 have E0:-8193<=E/\E<=8192:=by omega
 have H0:Hid (Big.NatV w vn X/\Big.NatV w vd Y/\Fits 256 X/\Fits 256 Y/\X ≠ 0/\Y ≠ 0/\fE X Y=E/\Fz s g n f T L):=⟨hn,hd,fX,fY,x0,y0,hE,hz⟩
 have hL:-1074<=L/\L<=0/\f<=52:=by rcases hz with ⟨_,_,_,h,_,h'⟩ | ⟨_,_,_,h,_,h'⟩ <;> omega
 obtain ⟨hL1,hL2,hf⟩:=hL
 obtain ⟨E1,E2⟩:=E0
 have HE:Hid _:=eE
 clear hn hd fX fY x0 y0 hE eE hz
 generalize bl X=N at *
 generalize bl Y=M at *
 generalize dG X Y ((N:Int) - (M:Int))=q at *
 go_enter Tryz.func77,Tryz.ntmps77
 go_wp2_with fail
 refine (HF _).mono ?_
 rintro x w1 ⟨rfl,rfl⟩
 go_wp2_with fail
 refine L1.mono ?_
 rintro x w2 ⟨rfl,rfl⟩
 go_wp2_with fail
 refine L2.mono ?_
 rintro x w3 ⟨rfl,rfl⟩
 clear L1 L2 HF
 go_wp2_with fail
 refine TB.mono ?_
 rintro x w4 ⟨rfl,b4⟩
 have B4:Hid (Bl w3 w4):=b4
 clear b4 TB
 go_upto_if 37 with fail
 go_cut [14] (fun u wx=>u=vI E/\wx=w4)
 case first =>
  rcases HE.out with ⟨rfl,k⟩ | ⟨rfl,k⟩
  . go_wp2
    go_meet
    exact ⟨rfl,rfl⟩
  . go_wp2
    go_meet
    exact ⟨rfl,rfl⟩
 case rest =>
 clear HE
 obtain ⟨rfl,hcw⟩:=hcut
 subst wc
 go_upto_region 5 with fail
 obtain ⟨l,hl⟩:∃ l,max (E+e - f) L=l:=⟨_,rfl⟩
 go_cut [15] (fun u wx=>u=vI l/\wx=w4)
 case first =>
  have HL:Hid (max (E+e - f) L=l):=hl
  clear hl
  go_wp2
  all_goals go_meet
  all_goals exact ⟨congrArg (Value.int .i64) (by have:=HL.out;omega),rfl⟩
 case rest =>
 obtain ⟨rfl,hcw⟩:=hcut
 subst wc
 have l1:L<=l:=by omega
 have l2:l<=28192:=by omega
 have l3:e - l<=8245:=by omega
 have l4:l - e<=20000:=by omega
 have HL:Hid (l=lE' f L X Y e):=by
  show l=_
  unfold lE'
  rw [H0.out.2.2.2.2.2.2.1,hl]
 clear hl
 have fx:Fits 999 (rX X e l):=(jN H0.out.2.2.1).up (by omega)
 have fy:Fits 999 (rY Y e l):=(jN H0.out.2.2.2.1).up (by omega)
 have fr:Fits 990 (rY Y e l):=(jN H0.out.2.2.2.1).up (by omega)
 have FF:Hid (Fits 999 (rX X e l)/\Fits 999 (rY Y e l)/\Fits 990 (rY Y e l)):=⟨fx,fy,fr⟩
 clear fx fy fr
 go_upto_if 54 with fail
 go_cut [17,18] (fun u v wx=>Big.NatV wx u (rX X e l)/\Big.NatV wx v (rY Y e l)/\Bl w3 wx)
 case first =>
  by_cases c:0<=e - l
  . obtain ⟨k,hk⟩:∃ k:Nat,(k:Int)=e - l:=⟨(e - l).toNat,by omega⟩
    have T:=iL (H0.out.1.below B4.out) (H0.out.2.2.1.up (by omega)) k (by omega)
    have e1:X * 2 ^ k=rX X e l:=by unfold rX;rw [<- hk,Int.toNat_natCast]
    have e2:Y=rY Y e l:=by unfold rY;rw [show (l - e).toNat=0 from by omega,Nat.pow_zero,Nat.mul_one]
    rw [hk,e1] at T
    have HE:Hid (Y=rY Y e l):=e2
    clear e1 e2 hk
    go_wp2_with fail
    refine T.mono ?_
    rintro x wa ⟨va,rfl,na,ba⟩
    have N1:Hid (Big.NatV wa va (rX X e l)/\Bl w4 wa):=⟨na,ba⟩
    clear na ba T
    go_wp2
    go_meet
    exact ⟨N1.out.1,by rw [<- HE.out];exact (H0.out.2.1.below B4.out).below N1.out.2,B4.out.trans (N1.out.2.mono B4.out.size)⟩
  . obtain ⟨k,hk⟩:∃ k:Nat,(k:Int) = -(e - l):=⟨(-(e - l)).toNat,by omega⟩
    have T:=iL (H0.out.2.1.below B4.out) (H0.out.2.2.2.1.up (by omega)) k (by omega)
    have e1:Y * 2 ^ k=rY Y e l:=by unfold rY;rw [show l - e = -(e - l) from by omega,<- hk,Int.toNat_natCast]
    have e2:X=rX X e l:=by unfold rX;rw [show (e - l).toNat=0 from by omega,Nat.pow_zero,Nat.mul_one]
    rw [hk,e1] at T
    have HE:Hid (X=rX X e l):=e2
    have c':e - l<0:=by omega
    clear e1 e2 hk c
    go_wp2_with fail
    refine T.mono ?_
    rintro x wa ⟨va,rfl,na,ba⟩
    have N1:Hid (Big.NatV wa va (rY Y e l)/\Bl w4 wa):=⟨na,ba⟩
    clear na ba T
    go_wp2
    go_meet
    exact ⟨by rw [<- HE.out];exact (H0.out.1.below B4.out).below N1.out.2,N1.out.1,B4.out.trans (N1.out.2.mono B4.out.size)⟩
 case rest =>
 obtain ⟨n1,n2,b5⟩:=hcut
 have hM:rdM f L X Y e more=rQ more (rX X e l / rY Y e l) (rX X e l % rY Y e l) (rY Y e l):=by unfold rdM;rw [<- HL.out]
 have hG:=oO (f:=f) (L:=L) (n:=X) (d:=Y) e H0.out.2.2.2.2.1 H0.out.2.2.2.2.2.1
 rw [<- HL.out] at hG
 have yp:rY Y e l ≠ 0:=Nat.mul_ne_zero H0.out.2.2.2.2.2.1 (Nat.ne_of_gt (Nat.two_pow_pos _))
 have TO:=wZ n1 n2 FF.out.1 FF.out.2.1 yp
 have hr:rX X e l % rY Y e l<rY Y e l:=Nat.mod_lt _ (Nat.pos_of_ne_zero yp)
 have B5:Hid (Bl w3 wc/\Big.NatV wc u18 (rY Y e l)):=⟨b5,n2⟩
 have HM:Hid (rdM f L X Y e more=rQ more (rX X e l / rY Y e l) (rX X e l % rY Y e l) (rY Y e l)/\rX X e l / rY Y e l<2 ^ (f+1)):=⟨hM,hG.1⟩
 have FR2:Hid (Fits 990 (rX X e l % rY Y e l)/\Fits 900 (rX X e l / rY Y e l)):=by
  refine ⟨FF.out.2.2.le (Nat.le_of_lt hr),?_⟩
  have:rX X e l / rY Y e l<=2 ^ 53:=Nat.le_of_lt (Nat.lt_of_lt_of_le hG.1 (Nat.pow_le_pow_right (by omega) (by omega)))
  exact (aZ (s:=53) (k:=900) (by omega)).le this
 clear n1 n2 b5 hM hG yp hr FF
 generalize rX X e l / rY Y e l=q at *
 generalize rX X e l % rY Y e l=r at *
 generalize rY Y e l=Z at *
 go_wp2_with fail
 refine TO.mono ?_
 rintro x w6 ⟨v1,v2,rfl,n1,n2,b6⟩
 have B6:Hid (Bl w3 w6/\Big.NatV w6 u18 Z/\Big.NatV w6 v1 q):=⟨B5.out.1.trans (b6.mono B5.out.1.size),B5.out.2.below b6,n1⟩
 have TU:=iL n2 (FR2.out.1.up (by omega)) 1 (by omega)
 rw [show ((1:Nat):Int)=1 from rfl] at TU
 clear n1 n2 b6 TO B5
 go_wp2_with fail
 refine TU.mono ?_
 rintro x w7 ⟨v3,rfl,n3,b7⟩
 have TC:=gD n3 (B6.out.2.1.below b7)
 have B7:Hid (Bl w3 w7/\Big.NatV w7 v1 q):=⟨B6.out.1.trans (b7.mono B6.out.1.size),B6.out.2.2.below b7⟩
 clear n3 b7 TU B6
 have oc:(Z<2 * r/\ord (r * 2 ^ 1) Z=1) \/ (2 * r=Z/\ord (r * 2 ^ 1) Z=0) \/ (2 * r<Z/\ord (r * 2 ^ 1) Z = -1):=by
  rw [show r * 2 ^ 1=2 * r from by omega]
  unfold ord
  rcases Nat.lt_trichotomy (2 * r) Z with c | c | c
  . right;right;exact ⟨c,by simp [c]⟩
  . right;left;subst c;exact ⟨rfl,by simp⟩
  . left;exact ⟨c,by simp [Nat.not_lt_of_lt c,c]⟩
 generalize ord (r * 2 ^ 1) Z=oz at *
 have HO:Hid _:=oc
 clear oc
 go_wp2_with fail
 refine TC.mono ?_
 rintro x w8 ⟨rfl,b8⟩
 have B8:Hid (Bl w3 w8/\Big.NatV w8 v1 q):=⟨B7.out.1.trans (b8.mono B7.out.1.size),B7.out.2.below b8⟩
 clear b8 TC B7
 go_upto_region 13 with fail
 go_cut [84] (fun u wx=>u=.bool (rU more q r Z)/\wx=w8)
 case first =>
  rcases HO.out with ⟨c,rfl⟩ | ⟨c,rfl⟩ | ⟨c,rfl⟩
  . have e1:rU more q r Z=true:=by unfold rU;rw [decide_eq_true_eq];exact .inl c
    have E1:Hid _:=e1
    clear e1 c HO
    go_wp2_with fail
    go_meet
    exact ⟨by rw [E1.out],rfl⟩
  . cases more
    . have e1:rU false q r Z=tb q 0:=by
       unfold rU tb
       rw [decide_eq_decide]
       simp
       omega
      have E1:Hid _:=e1
      have TT:=aBk B8.out.2 (FR2.out.2.up (by omega)) 0 (by omega)
      rw [show ((0:Nat):Int)=0 from rfl] at TT
      clear e1 c HO
      go_wp2_with fail
      refine TT.mono ?_
      rintro x w9 ⟨rfl,rfl⟩
      go_wp2_with fail
      go_meet
      exact ⟨by rw [E1.out],rfl⟩
    . have e1:rU true q r Z=true:=by unfold rU;rw [decide_eq_true_eq];exact .inr ⟨c,.inl rfl⟩
      have E1:Hid _:=e1
      clear e1 c HO
      go_wp2_with fail
      go_meet
      exact ⟨by rw [E1.out],rfl⟩
  . have e1:rU more q r Z=false:=by unfold rU;rw [decide_eq_false_iff_not];omega
    have E1:Hid _:=e1
    clear e1 c HO
    go_wp2_with fail
    go_meet
    exact ⟨by rw [E1.out],rfl⟩
 case rest =>
 obtain ⟨rfl,hcw⟩:=hcut
 subst wc
 clear HO
 have hK:rdM f L X Y e more=q+(if rU more q r Z=true then 1 else 0):=HM.out.1
 have q53:q<2 ^ 53:=Nat.lt_of_lt_of_le HM.out.2 (Nat.pow_le_pow_right (by omega) (by omega))
 have fq:=FR2.out.2
 go_upto_if 84 with fail
 obtain ⟨K,eK⟩:∃ K,rdM f L X Y e more=K:=⟨_,rfl⟩
 have HK:Hid (rdM f L X Y e more=K/\K<18446744073709551616):=by
  refine ⟨eK,?_⟩
  rw [<- eK,hK]
  split <;> omega
 rw [eK] at hK
 clear eK
 go_cut [19] (fun u wx=>Big.NatV wx u K/\Bl w3 wx)
 case first =>
  generalize rU more q r Z=U at *
  cases U
  . rw [if_neg (by decide),Nat.add_zero] at hK
    have HQ:Hid (K=q):=hK
    clear hK q53 fq
    go_wp2_with fail
    go_meet
    exact ⟨by rw [HQ.out];exact B8.out.2,B8.out.1⟩
  . rw [if_pos rfl] at hK
    have HQ:Hid (K=q+1):=hK
    have S1:∀ W,Calls Tryz.prog 105 #[vU 1] W fun e w'=>∃ v,e=.returned v/\Big.NatV w' v 1/\Bl W w':=fun W=>bP 1 (by unfold B;decide) W
    have FQ:Hid (Fits 900 q):=fq
    clear hK q53 fq
    go_wp2_with fail
    refine (S1 _).mono ?_
    rintro x wa ⟨va,rfl,na,ba⟩
    have TP:=jT (B8.out.2.below ba) na (FQ.out.up (by omega)) ((aZ (s:=0) (k:=1) (by omega)).up (by omega))
    have BA:Hid (Bl w8 wa):=ba
    clear na ba
    go_wp2_with fail
    refine TP.mono ?_
    rintro x wb ⟨vb,rfl,nb,bb⟩
    have NB:Hid (Big.NatV wb vb (q+1)/\Bl w8 wb):=⟨nb,BA.out.trans (bb.mono BA.out.size)⟩
    clear nb bb TP
    go_wp2_with fail
    go_meet
    exact ⟨by rw [HQ.out];exact NB.out.1,B8.out.1.trans (NB.out.2.mono B8.out.1.size)⟩
 case rest =>
 obtain ⟨nk,bk⟩:=hcut
 have NK:Hid (Big.NatV wc u19 K/\Bl w3 wc):=⟨nk,bk⟩
 clear hK q53 fq B8 HM FR2 nk bk
 obtain ⟨ao,m,cp,rfl,hm0⟩:=uV NK.out.1
 have t2:2<=T:=by rcases H0.out.2.2.2.2.2.2.2 with ⟨_,_,_,_,h,_⟩ | ⟨_,_,_,_,h,_⟩ <;> omega
 have x0:=H0.out.2.2.2.2.1
 have y0:=H0.out.2.2.2.2.2.1
 by_cases k0:K=0
 . have m0:m=0:=hm0.2 k0
   subst m0
   have hA:rdA f T L X Y e more=(0,false):=by
    obtain ⟨z1,z2⟩:=aAF (T:=T) t2 x0 y0 (HK.out.1.trans k0)
    unfold rdA
    rw [if_neg x0,z1,if_pos z2]
   have HA:Hid _:=hA
   clear hA x0 y0 t2 hm0 k0
   go_wp2
   exact bodyPost_ret (v:=.tuple #[vU 0,.bool false]) (by simp [results,Tryz.results77,go_sem]) rfl ⟨by rw [HA.out];rfl,NK.out.2⟩
 . have m0:((m:Int) == 0)=false:=by
    have:m ≠ 0:=fun z=>k0 (hm0.1 z)
    simp;omega
   have TW:=vB NK.out.1 HK.out.2
   have hp:=aDo (T:=T) t2 more x0 y0 (fun z=>k0 (HK.out.1.symm.trans z))
   rw [HK.out.1,<- HL.out] at hp
   have TP:=fun W=>aCe H0.out.2.2.2.2.2.2.2 false HK.out.2 k0 (p:=l) (by omega) W
   rw [hp] at TP
   have TI:=fun W=>aDt H0.out.2.2.2.2.2.2.2 W
   by_cases c:rdN f L X Y e more<T * 2 ^ f
   . have hA:rdA f T L X Y e more=(rdN f L X Y e more,false):=by unfold rdA;rw [if_neg x0,if_pos c]
     rw [if_pos c] at TP
     have TP2:∀ W,Cb 114 #[.agg #[.bool false,vI 2,vU (K:Int),vI l],vI s] W (.tuple #[vU ((rdN f L X Y e more:Nat):Int),vI 0]):=TP
     have HA:Hid _:=hA
     clear hA c TP TI hp x0 y0 t2 hm0 k0
     obtain ⟨b,hb⟩:∃ b,rdN f L X Y e more=b:=⟨_,rfl⟩
     have HB:Hid _:=hb
     rw [hb] at TP2
     clear hb
     go_wp2_with fail
     refine TW.mono ?_
     rintro x wa ⟨rfl,rfl⟩
     go_wp2_with fail
     refine (TP2 _).mono ?_
     rintro x wb ⟨rfl,bb⟩
     have BB:Hid (Bl w3 wb):=NK.out.2.trans (bb.mono NK.out.2.size)
     clear bb
     go_wp2
     exact bodyPost_ret (v:=.tuple #[vU (b:Int),.bool false]) (by simp [results,Tryz.results77,go_sem]) rfl ⟨by rw [HA.out,HB.out],BB.out⟩
   . have hA:rdA f T L X Y e more=(T * 2 ^ f,true):=by unfold rdA;rw [if_neg x0,if_neg c]
     rw [if_neg c] at TP
     have TP2:∀ W,Cb 114 #[.agg #[.bool false,vI 2,vU (K:Int),vI l],vI s] W (.tuple #[vU 0,vI 4]):=TP
     have HA:Hid _:=hA
     clear hA c TP hp x0 y0 t2 hm0 k0
     obtain ⟨b,hb⟩:∃ b,T * 2 ^ f=b:=⟨_,rfl⟩
     have HB:Hid _:=hb
     rw [hb] at TI
     clear hb
     go_wp2_with fail
     refine TW.mono ?_
     rintro x wa ⟨rfl,rfl⟩
     go_wp2_with fail
     refine (TP2 _).mono ?_
     rintro x wb ⟨rfl,bb⟩
     have BB:Hid (Bl w3 wb):=NK.out.2.trans (bb.mono NK.out.2.size)
     clear bb
     go_wp2_with fail
     refine (TI _).mono ?_
     rintro x wd ⟨rfl,rfl⟩
     go_wp2
     exact bodyPost_ret (v:=.tuple #[vU (b:Int),.bool true]) (by simp [results,Tryz.results77,go_sem]) rfl ⟨by rw [HA.out,HB.out],BB.out⟩
theorem rN {s:Int}{g n f T:Nat}{L:Int}(h:Fz s g n f T L) (w:World):Cs 74 #[vI s] w (.bool true):=by
 rcases h with ⟨rfl,rfl,rfl,rfl,rfl,rfl⟩ | ⟨rfl,rfl,rfl,rfl,rfl,rfl⟩
 . exact eV w
 . exact gL w
end Go.Proofs.YtblkokjkmbpejaaGreatDoor
