/-
  Holds: UCrP.
-/
import Derived.Laws.BitsAllLaws
import Derived.Test.YtejgpbhionadbaaGreatDoorChecked
import Derived.Lib.ItoaNum
import Derived.Laws.Externs
import Derived.WalkKit
import Derived.WalkSpells
import Derived.WalkLawsBesides
import Derived.Lib.Mul64
import Derived.Lib.TrailingZeros
import Derived.Deep.OwnRows
import Derived.Laws.CopyOwn
import Derived.BigQuiet
import Derived.Deep.RegionHeld3
import Derived.Deep.LoopGhost
import Derived.Deep.AppendLies
import Derived.Deep.DeepCutAuto
import Derived.Stop.Asserts
import Derived.RowKitTokens
import Derived.Lib.Strings
import Derived.Lib.BufferWrite
import Derived.Lib.ConvBytes
import Derived.Test.YtejgpbhionadbaaGreatDoorRows
import Derived.Test.YtejgpbhionadbaaGreatDoorXl11
import Derived.Test.YtejgpbhionadbaaGreatDoorXl22
import Derived.Test.YtejgpbhionadbaaGreatDoorXl23
set_option maxRecDepth 100000
set_option maxHeartbeats 4000000
namespace Go.Proofs.YtejgpbhionadbaaGreatDoor
open Go.RowKit
theorem sM {x a K:Nat}(h:x<=2 ^ a) (k:a<64 * K):x<B ^ K:=by
 have q:=sF (b:=1) (C:=0) h (by decide) k
 rw [Nat.mul_one] at q
 exact q
theorem aV {w:World}{v:Value}{X:Nat}(h:NatV w v X):∃ ao n c,v=.slice ao n c:=by
 obtain ⟨ao,n,c,_,_,_,rfl,_⟩:=h
 exact ⟨ao,n,c,rfl⟩
theorem aAC    (s : ByteArray) : ∀ k, sv 10 (fun k => dgt s k - 48) k = dvA s 0 k
  | 0 => rfl
  | k + 1 => by
    show sv 10 (fun k => dgt s k - 48) k * 10 + (dgt s k - 48) = _
    rw [aAC    s k, bH      , Nat.zero_add]
theorem aAL (w:World):Cs 235 #[.string ⟨#[]⟩,vI 10] w (.bool false):=by
 go_enter Tryz.func235,Tryz.ntmps235
 go_wp2
 go_loop [8] (fun i=>i=vI 0) (fun _=>0)
 case atStart=>rfl
 case round =>
  subst hrel
  go_wp2
  go_ret
  exact ⟨rfl,rfl⟩
theorem aE7 (w:World):Calls Tryz.prog 197 #[.string ⟨#[]⟩,vI 10] w fun e w'=>∃ v er,e=.returned (.tuple #[v,er])/\NatV w' v 0/\Bl w w':=by
 have IB:∀ W,Cs 234 #[vI 10] W (.bool true):=fun W=>qI 10 (by decide) (by decide) W
 have AR:=fun W=>aAL W
 go_enter Tryz.func197,Tryz.ntmps197
 go_wp2_with fail
 refine (IB _).mono ?_
 rintro e w1 ⟨rfl,rfl⟩
 go_wp2_with fail
 refine (AR _).mono ?_
 rintro e w1 ⟨rfl,rfl⟩
 go_wp2
 exact bodyPost_ret (v:=.tuple #[.slice none 0 0,.iface 63 (vI 30)]) (by simp [results,Tryz.results197,go_sem]) rfl ⟨_,_,rfl,natv_nil _,Below.refl _ _⟩
theorem aJq {s:ByteArray}(hs:s.size<=800) (hd:DG s) (hf:∀ h:0<s.size,(s[0]'h).toNat ≠ 48) (w:World):Calls Tryz.prog 197 #[.string s,vI 10] w fun e w'=>∃ v er,e=.returned (.tuple #[v,er])/\NatV w' v (dvA s 0 s.size)/\Bl w w':=by
 by_cases h0:s.size=0
 . obtain rfl:=tL h0
   exact aE7 w
 . have lim:sv 10 (fun k=>dgt s k - 48) s.size<B ^ 128:=by
    rw [aAC]
    exact sM (a:=4 * s.size) (Nat.le_trans (Nat.le_of_lt (dN hd 0 s.size)) (oJ _)) (by omega)
   refine (aJr s (by omega) (by omega) 10 (by decide) (by decide) (fun k=>dgt s k - 48) (fun k h=>?_) (fun k h=>?_) 0 (Nat.zero_le _) (fun i h=>absurd h (by omega)) (fun h=>hf h) lim).mono ?_
   . have q:=hd k h
     rw [cO h]
     unfold dv
     rw [if_pos q]
   . have q:=hd k h
     simp only [cO h]
     omega
   . rintro e w' ⟨v,rfl,n,b⟩
     rw [aAC] at n
     exact ⟨v,_,rfl,n,b⟩
theorem gQ {k:Nat}(h:k<=1200) (w:World):Calls Tryz.prog 198 #[vU 10,vI (k:Int)] w fun e w'=>∃ v,e=.returned (.tuple #[v,.nilIface])/\NatV w' v (10 ^ k)/\Bl w w' :=
 zW 10 k (by decide) (by omega) (sM (a:=4 * k) (oJ k) (by omega)) w
theorem jC {mb:Option Nat}{e t l s:Int}{W:World}{K:Nat}{a b c:Value}(kk:WkB mb W K a b c) (m:Mq mb e t W l s) (l0:0<=l) (l1:l<=512) {d:ByteArray}(hs:d.size<=800) (hd:DG d) (hf:∀ h:0<d.size,(d[0]'h).toNat ≠ 48) (p:Int) :
 Calls Tryz.prog 158 #[.pointer (some ⟨K,0,none⟩),.string d,vI p] W fun x W'=>∃ v1 v2 l',x=.returned (.tuple #[v1,v2])/\NatV W' v1 (frN d (clP p))/\NatV W' v2 (frD d (clP p))/\Bt mb W W'/\l<=l'/\l'<=l+512/\Mq mb e t W' l' s:=by
 have HK:Hid (WkB mb W K a b c/\Mq mb e t W l s/\0<=l/\l<=512):=⟨kk,m,l0,l1⟩
 have RD:=aJq hs hd hf W
 obtain ⟨aN,lN,eN⟩:=aBp hs hd (lU p).2
 have HL:Hid (frN d (clP p)<B ^ 128):=sM (K:=128) lN (by omega)
 have HS:Hid (d.size<=800 /\ -324<=clP p/\clP p<=310):=⟨hs,(lU p).1,(lU p).2⟩
 have HQ:Hid (∀ q:Int,q=clP p - d.size -> frN d (clP p)=dvA d 0 d.size * 10 ^ q.toNat/\frD d (clP p)=10 ^ (-q).toNat):=fun q hq=>by
  unfold frN frD
  rw [hq,show -(clP p - (d.size:Int))=(d.size:Int) - clP p by omega]
  exact ⟨rfl,rfl⟩
 clear kk m l0 l1 hs hd hf lN eN
 go_enter Tryz.func158,Tryz.ntmps158
 go_upto_region 1 with fail
 go_cut [8] (fun s8 wx=>wx=W/\∃ q:Int,s8=vI q/\q=clP p - d.size)
 case first =>
  go_wp2
  all_goals go_meet
  all_goals refine ⟨rfl,_,rfl,?_⟩
  all_goals
   have:=HS.out
   unfold clP at *
   unfold wrap64
   omega
 case rest =>
 obtain ⟨rfl,q,rfl,hq⟩:=hcut
 obtain ⟨eN,eD⟩:=HQ.out q hq
 rw [eN] at HL
 have HB:Hid (-1124<=q/\q<=310):=by have:=HS.out;exact (⟨by omega,by omega⟩:-1124<=q/\q<=310)
 clear hq HQ HS
 rcases Int.lt_trichotomy q 0 with cc | cc | cc
 . obtain ⟨k,rfl⟩:∃ k:Nat,q = -(k:Int):=⟨(-q).toNat,by omega⟩
   have P1:=fun W=>gQ (k:=0) (by have:=HB.out;omega) W
   have P2:=fun W=>gQ (k:=k) (by have:=HB.out;omega) W
   have ea:(-(k:Int)).toNat=0:=by omega
   have eb:(-(-(k:Int))).toNat=k:=by omega
   have HE:Hid (frN d (clP p)=dvA d 0 d.size * 10 ^ 0/\frD d (clP p)=10 ^ k):=⟨by rw [eN,ea],by rw [eD,eb]⟩
   rw [ea] at HL
   clear ea eb eN eD
   have k0:(0:Int)<(k:Int):=by omega
   have wn:wrap64 (k:Int)=(k:Int):=by
    have:=HB.out
    unfold wrap64
    omega
   generalize dvA d 0 d.size=A at *
   go_wp2_with fail
   refine RD.mono ?_
   rintro x w1 ⟨v1,er,rfl,n1,b1⟩
   have H1:Hid (NatV w1 v1 A/\Bl wc w1):=⟨n1,b1⟩
   clear n1 b1 RD
   go_wp2_with fail
   refine (P1 _).mono ?_
   rintro x w2 ⟨v2,rfl,n2,b2⟩
   have H2:Hid (NatV w2 v1 A/\NatV w2 v2 (10 ^ 0)/\Bl wc w2):=⟨H1.out.1.below b2,n2,H1.out.2.trans (b2.mono H1.out.2.size)⟩
   clear n2 b2 H1 P1
   have M1:=mJ H2.out.1 H2.out.2.1 HL.out
   go_wp2_with fail
   refine M1.mono ?_
   rintro x w3 ⟨v3,rfl,n3,b3⟩
   have H3:Hid (NatV w3 v1 A/\NatV w3 v2 (10 ^ 0)/\NatV w3 v3 (A * 10 ^ 0)/\Bl wc w3):=⟨H2.out.1.below b3,H2.out.2.1.below b3,n3,H2.out.2.2.trans (b3.mono H2.out.2.2.size)⟩
   clear n3 b3 H2 M1
   go_wp2_with fail
   refine (P2 _).mono ?_
   rintro x w4 ⟨v4,rfl,n4,b4⟩
   have H4:Hid (NatV w4 v1 A/\NatV w4 v2 (10 ^ 0)/\NatV w4 v3 (A * 10 ^ 0)/\NatV w4 v4 (10 ^ k)/\Bl wc w4):=⟨H3.out.1.below b4,H3.out.2.1.below b4,H3.out.2.2.1.below b4,n4,H3.out.2.2.2.trans (b4.mono H3.out.2.2.2.size)⟩
   clear n4 b4 H3 P2
   obtain ⟨a1,k1,c1,rfl⟩:=aV H4.out.1
   obtain ⟨a2,k2,c2,rfl⟩:=aV H4.out.2.1
   obtain ⟨a3,k3,c3,rfl⟩:=aV H4.out.2.2.1
   obtain ⟨a4,k4,c4,rfl⟩:=aV H4.out.2.2.2.1
   have TK:=fun T=>oI ((HK.out.1.step H4.out.2.2.2.2).alloc (.cells #[(.slice a1 k1 c1),(.slice a2 k2 c2),(.slice a3 k3 c3),(.slice a4 k4 c4)] T)) ((HK.out.2.1.step H4.out.2.2.2.2).alloc (.cells #[(.slice a1 k1 c1),(.slice a2 k2 c2),(.slice a3 k3 c3),(.slice a4 k4 c4)] T)) (Rw4.new H4.out.1 H4.out.2.1 H4.out.2.2.1 H4.out.2.2.2.1 T rfl) (HK.out.2.1.step H4.out.2.2.2.2).lt HK.out.2.2.1 HK.out.2.2.2
   go_wp2_with fail
   refine (TK _).mono ?_
   rintro x w5 ⟨l',rfl,b5,q1,q2,m5⟩
   have B4:Bl w4 (w4.alloc (.cells #[(.slice a1 k1 c1),(.slice a2 k2 c2),(.slice a3 k3 c3),(.slice a4 k4 c4)] 203)):=bz _ _
   have M4:=(HK.out.2.1.step H4.out.2.2.2.2).step B4
   have H5:Hid (NatV w5 (.slice a3 k3 c3) (A * 10 ^ 0)/\NatV w5 (.slice a4 k4 c4) (10 ^ k)/\Bt mb wc w5/\l<=l'/\l'<=l+512/\Mq mb e t w5 l' s):=⟨M4.nat (H4.out.2.2.1.below B4) b5,M4.nat (H4.out.2.2.2.1.below B4) b5,(Bt.of (H4.out.2.2.2.2.trans (B4.mono H4.out.2.2.2.2.size))).trans b5,q1,q2,m5⟩
   clear b5 q1 q2 m5 TK H4 B4 M4
   go_wp2
   exact bodyPost_ret (v:=.tuple #[(.slice a3 k3 c3),(.slice a4 k4 c4)]) (by simp [results,Tryz.results158,go_sem]) rfl ⟨_,_,l',rfl,by rw [HE.out.1];exact H5.out.1,by rw [HE.out.2];exact H5.out.2.1,H5.out.2.2⟩
 . subst cc
   have P1:=fun W=>gQ (k:=0) (by have:=HB.out;omega) W
   have P2:=fun W=>gQ (k:=0) (by have:=HB.out;omega) W
   have ea:(0:Int).toNat=0:=by omega
   have eb:(-(0:Int)).toNat=0:=by omega
   have HE:Hid (frN d (clP p)=dvA d 0 d.size * 10 ^ 0/\frD d (clP p)=10 ^ 0):=⟨by rw [eN,ea],by rw [eD,eb]⟩
   rw [ea] at HL
   clear ea eb eN eD
   generalize dvA d 0 d.size=A at *
   go_wp2_with fail
   refine RD.mono ?_
   rintro x w1 ⟨v1,er,rfl,n1,b1⟩
   have H1:Hid (NatV w1 v1 A/\Bl wc w1):=⟨n1,b1⟩
   clear n1 b1 RD
   go_wp2_with fail
   refine (P1 _).mono ?_
   rintro x w2 ⟨v2,rfl,n2,b2⟩
   have H2:Hid (NatV w2 v1 A/\NatV w2 v2 (10 ^ 0)/\Bl wc w2):=⟨H1.out.1.below b2,n2,H1.out.2.trans (b2.mono H1.out.2.size)⟩
   clear n2 b2 H1 P1
   have M1:=mJ H2.out.1 H2.out.2.1 HL.out
   go_wp2_with fail
   refine M1.mono ?_
   rintro x w3 ⟨v3,rfl,n3,b3⟩
   have H3:Hid (NatV w3 v1 A/\NatV w3 v2 (10 ^ 0)/\NatV w3 v3 (A * 10 ^ 0)/\Bl wc w3):=⟨H2.out.1.below b3,H2.out.2.1.below b3,n3,H2.out.2.2.trans (b3.mono H2.out.2.2.size)⟩
   clear n3 b3 H2 M1
   go_wp2_with fail
   refine (P2 _).mono ?_
   rintro x w4 ⟨v4,rfl,n4,b4⟩
   have H4:Hid (NatV w4 v1 A/\NatV w4 v2 (10 ^ 0)/\NatV w4 v3 (A * 10 ^ 0)/\NatV w4 v4 (10 ^ 0)/\Bl wc w4):=⟨H3.out.1.below b4,H3.out.2.1.below b4,H3.out.2.2.1.below b4,n4,H3.out.2.2.2.trans (b4.mono H3.out.2.2.2.size)⟩
   clear n4 b4 H3 P2
   obtain ⟨a1,k1,c1,rfl⟩:=aV H4.out.1
   obtain ⟨a2,k2,c2,rfl⟩:=aV H4.out.2.1
   obtain ⟨a3,k3,c3,rfl⟩:=aV H4.out.2.2.1
   obtain ⟨a4,k4,c4,rfl⟩:=aV H4.out.2.2.2.1
   have TK:=fun T=>oI ((HK.out.1.step H4.out.2.2.2.2).alloc (.cells #[(.slice a1 k1 c1),(.slice a2 k2 c2),(.slice a3 k3 c3),(.slice a4 k4 c4)] T)) ((HK.out.2.1.step H4.out.2.2.2.2).alloc (.cells #[(.slice a1 k1 c1),(.slice a2 k2 c2),(.slice a3 k3 c3),(.slice a4 k4 c4)] T)) (Rw4.new H4.out.1 H4.out.2.1 H4.out.2.2.1 H4.out.2.2.2.1 T rfl) (HK.out.2.1.step H4.out.2.2.2.2).lt HK.out.2.2.1 HK.out.2.2.2
   go_wp2_with fail
   refine (TK _).mono ?_
   rintro x w5 ⟨l',rfl,b5,q1,q2,m5⟩
   have B4:Bl w4 (w4.alloc (.cells #[(.slice a1 k1 c1),(.slice a2 k2 c2),(.slice a3 k3 c3),(.slice a4 k4 c4)] 203)):=bz _ _
   have M4:=(HK.out.2.1.step H4.out.2.2.2.2).step B4
   have H5:Hid (NatV w5 (.slice a3 k3 c3) (A * 10 ^ 0)/\NatV w5 (.slice a4 k4 c4) (10 ^ 0)/\Bt mb wc w5/\l<=l'/\l'<=l+512/\Mq mb e t w5 l' s):=⟨M4.nat (H4.out.2.2.1.below B4) b5,M4.nat (H4.out.2.2.2.1.below B4) b5,(Bt.of (H4.out.2.2.2.2.trans (B4.mono H4.out.2.2.2.2.size))).trans b5,q1,q2,m5⟩
   clear b5 q1 q2 m5 TK H4 B4 M4
   go_wp2
   exact bodyPost_ret (v:=.tuple #[(.slice a3 k3 c3),(.slice a4 k4 c4)]) (by simp [results,Tryz.results158,go_sem]) rfl ⟨_,_,l',rfl,by rw [HE.out.1];exact H5.out.1,by rw [HE.out.2];exact H5.out.2.1,H5.out.2.2⟩
 . obtain ⟨k,rfl⟩:∃ k:Nat,q=(k:Int):=⟨q.toNat,by omega⟩
   have P1:=fun W=>gQ (k:=k) (by have:=HB.out;omega) W
   have P2:=fun W=>gQ (k:=0) (by have:=HB.out;omega) W
   have ea:(k:Int).toNat=k:=by omega
   have eb:(-(k:Int)).toNat=0:=by omega
   have HE:Hid (frN d (clP p)=dvA d 0 d.size * 10 ^ k/\frD d (clP p)=10 ^ 0):=⟨by rw [eN,ea],by rw [eD,eb]⟩
   rw [ea] at HL
   clear ea eb eN eD
   have k0:(0:Int)<(k:Int):=by omega
   have wn:wrap64 (-(k:Int)) = -(k:Int):=by
    have:=HB.out
    unfold wrap64
    omega
   generalize dvA d 0 d.size=A at *
   go_wp2_with fail
   refine RD.mono ?_
   rintro x w1 ⟨v1,er,rfl,n1,b1⟩
   have H1:Hid (NatV w1 v1 A/\Bl wc w1):=⟨n1,b1⟩
   clear n1 b1 RD
   go_wp2_with fail
   refine (P1 _).mono ?_
   rintro x w2 ⟨v2,rfl,n2,b2⟩
   have H2:Hid (NatV w2 v1 A/\NatV w2 v2 (10 ^ k)/\Bl wc w2):=⟨H1.out.1.below b2,n2,H1.out.2.trans (b2.mono H1.out.2.size)⟩
   clear n2 b2 H1 P1
   have M1:=mJ H2.out.1 H2.out.2.1 HL.out
   go_wp2_with fail
   refine M1.mono ?_
   rintro x w3 ⟨v3,rfl,n3,b3⟩
   have H3:Hid (NatV w3 v1 A/\NatV w3 v2 (10 ^ k)/\NatV w3 v3 (A * 10 ^ k)/\Bl wc w3):=⟨H2.out.1.below b3,H2.out.2.1.below b3,n3,H2.out.2.2.trans (b3.mono H2.out.2.2.size)⟩
   clear n3 b3 H2 M1
   go_wp2_with fail
   refine (P2 _).mono ?_
   rintro x w4 ⟨v4,rfl,n4,b4⟩
   have H4:Hid (NatV w4 v1 A/\NatV w4 v2 (10 ^ k)/\NatV w4 v3 (A * 10 ^ k)/\NatV w4 v4 (10 ^ 0)/\Bl wc w4):=⟨H3.out.1.below b4,H3.out.2.1.below b4,H3.out.2.2.1.below b4,n4,H3.out.2.2.2.trans (b4.mono H3.out.2.2.2.size)⟩
   clear n4 b4 H3 P2
   obtain ⟨a1,k1,c1,rfl⟩:=aV H4.out.1
   obtain ⟨a2,k2,c2,rfl⟩:=aV H4.out.2.1
   obtain ⟨a3,k3,c3,rfl⟩:=aV H4.out.2.2.1
   obtain ⟨a4,k4,c4,rfl⟩:=aV H4.out.2.2.2.1
   have TK:=fun T=>oI ((HK.out.1.step H4.out.2.2.2.2).alloc (.cells #[(.slice a1 k1 c1),(.slice a2 k2 c2),(.slice a3 k3 c3),(.slice a4 k4 c4)] T)) ((HK.out.2.1.step H4.out.2.2.2.2).alloc (.cells #[(.slice a1 k1 c1),(.slice a2 k2 c2),(.slice a3 k3 c3),(.slice a4 k4 c4)] T)) (Rw4.new H4.out.1 H4.out.2.1 H4.out.2.2.1 H4.out.2.2.2.1 T rfl) (HK.out.2.1.step H4.out.2.2.2.2).lt HK.out.2.2.1 HK.out.2.2.2
   go_wp2_with fail
   refine (TK _).mono ?_
   rintro x w5 ⟨l',rfl,b5,q1,q2,m5⟩
   have B4:Bl w4 (w4.alloc (.cells #[(.slice a1 k1 c1),(.slice a2 k2 c2),(.slice a3 k3 c3),(.slice a4 k4 c4)] 203)):=bz _ _
   have M4:=(HK.out.2.1.step H4.out.2.2.2.2).step B4
   have H5:Hid (NatV w5 (.slice a3 k3 c3) (A * 10 ^ k)/\NatV w5 (.slice a4 k4 c4) (10 ^ 0)/\Bt mb wc w5/\l<=l'/\l'<=l+512/\Mq mb e t w5 l' s):=⟨M4.nat (H4.out.2.2.1.below B4) b5,M4.nat (H4.out.2.2.2.1.below B4) b5,(Bt.of (H4.out.2.2.2.2.trans (B4.mono H4.out.2.2.2.2.size))).trans b5,q1,q2,m5⟩
   clear b5 q1 q2 m5 TK H4 B4 M4
   go_wp2
   exact bodyPost_ret (v:=.tuple #[(.slice a3 k3 c3),(.slice a4 k4 c4)]) (by simp [results,Tryz.results158,go_sem]) rfl ⟨_,_,l',rfl,by rw [HE.out.1];exact H5.out.1,by rw [HE.out.2];exact H5.out.2.1,H5.out.2.2⟩
theorem Bt.far {mb:Option Nat}{w W:World}{K:Nat}(h:Bt mb w W) (hK:w.heap.size<=K) (o:Nat) (v:Value):Bt mb w (W.setCell ⟨K,o,Option.none⟩ v) :=
 ⟨h.os,h.tape,h.output,by simpa using h.size,fun k hk hn=>(Below.heap_setCell _ _ _ _ (by show k ≠ K;omega)).trans (h.block k hk hn)⟩
theorem aBQ (a:Option Addr) (n c:Nat) (z:Int):Value.slice a n c ≠ vU z:=by simp
theorem aIW {mb:Option Nat}{e t l s:Int}{w W:World}{K:Nat}{a b c:Value}(kk:WkB mb W K a b c) (m:Mq mb e t W l s) (l0:0<=l) (l1:l<=512) {d:ByteArray}{p:Int}{cu:Bool}(h:VD d p cu) (hw:Bt mb w W) (hK:w.heap.size<=K) :
 Calls Tryz.prog 117 #[.pointer (some ⟨K,0,none⟩),dcV d p cu] W fun x W'=>∃ v1 v2 l',x=.returned (.tuple #[])/\WkB mb W' K v1 v2 (.bool cu)/\NatV W' v1 (frN d (clP p))/\NatV W' v2 (frD d (clP p))/\Bt mb w W'/\l<=l'/\l'<=l+512/\Mq mb e t W' l' s:=by
 obtain ⟨dg,ds⟩:=h.dg
 have hs:d.size<=800:=by rcases h with ⟨h,_⟩ | h;omega;exact h.len
 have hf:∀ h0:0<d.size,(d[0]'h0).toNat ≠ 48:=by
  rcases h with ⟨h,_⟩ | h
  . intro h0;omega
  . intro _;exact h.first
 unfold dcV
 have BA:Bl W (W.alloc (.cells #[.string d,vI p,.bool cu] 41)):=bz _ _
 have HK:Hid (WkB mb (W.alloc (.cells #[.string d,vI p,.bool cu] 41)) K a b c/\Mq mb e t (W.alloc (.cells #[.string d,vI p,.bool cu] 41)) l s/\Bt mb w (W.alloc (.cells #[.string d,vI p,.bool cu] 41))/\w.heap.size<=K/\K<W.heap.size/\mb ≠ some W.heap.size):=⟨kk.step BA,m.step BA,hw.trans (Bt.of BA),hK,kk.lt,m.lt⟩
 have FR:=jC HK.out.1 HK.out.2.1 l0 l1 hs dg hf p
 have box2:(W.alloc (.cells #[.string d,vI p,.bool cu] 41)).cell? ⟨W.heap.size,2,none⟩=some (.bool cu):=by simp
 have bsz:W.heap.size<(W.alloc (.cells #[.string d,vI p,.bool cu] 41)).heap.size:=by simp
 have HX:Hid (W.heap.size<(W.alloc (.cells #[.string d,vI p,.bool cu] 41)).heap.size/\(W.alloc (.cells #[.string d,vI p,.bool cu] 41)).cell? ⟨W.heap.size,2,none⟩=some (.bool cu)):=⟨bsz,box2⟩
 clear kk m l0 l1 h hw hK BA dg ds hs hf box2 bsz
 go_enter Tryz.func117,Tryz.ntmps117
 go_wp2_with fail
 refine FR.mono ?_
 rintro x w2 ⟨v1,v2,l',rfl,n1,n2,b2,q1,q2,m2⟩
 obtain ⟨a1,k1,c1,rfl⟩:=aV n1
 obtain ⟨a2,k2,c2,rfl⟩:=aV n2
 have K2:=HK.out.1.bt b2
 have hc:w2.cell? ⟨W.heap.size,2,none⟩=some (.bool cu):=(b2.cell (p:=⟨W.heap.size,2,none⟩) HX.out.1 HK.out.2.2.2.2.2).trans HX.out.2
 have hne:W.heap.size ≠ K:=by have:=HK.out.2.2.2.2.1;omega
 have hcut:((w2.setCell ⟨K,1,none⟩ (.slice a1 k1 c1)).setCell ⟨K,2,none⟩ (.slice a2 k2 c2)).cell? ⟨W.heap.size,2,none⟩=some (.bool cu):=by
  rw [World.cell?_setCell_other _ _ _ _ (by intro z;injection z with z _ _;exact hne z.symm),World.cell?_setCell_other _ _ _ _ (by intro z;injection z with z _ _;exact hne z.symm),hc]
 have f1:=K2.fr 1
 have f2:=K2.fr 2
 have f3:=K2.fr 3
 have g0:=K2.a1
 have g1:=K2.a2
 have g2:=K2.a3
 have S1:=K2.set1 (aBQ a1 k1 c1)
 have S2:=S1.set2 (aBQ a2 k2 c2)
 have S3:=S2.set3 (v:=.bool cu) (by intro z;simp)
 have N1:=((n1.set K2.nu 1 (.slice a1 k1 c1)).set S1.nu 2 (.slice a2 k2 c2)).set S2.nu 3 (.bool cu)
 have N2:=((n2.set K2.nu 1 (.slice a1 k1 c1)).set S1.nu 2 (.slice a2 k2 c2)).set S2.nu 3 (.bool cu)
 have M3:=((m2.far K2.ne 1 (.slice a1 k1 c1)).far K2.ne 2 (.slice a2 k2 c2)).far K2.ne 3 (.bool cu)
 have B3:=(((HK.out.2.2.1.trans b2).far HK.out.2.2.2.1 1 (.slice a1 k1 c1)).far HK.out.2.2.2.1 2 (.slice a2 k2 c2)).far HK.out.2.2.2.1 3 (.bool cu)
 have HE:Hid (WkB mb (((w2.setCell ⟨K,1,none⟩ (.slice a1 k1 c1)).setCell ⟨K,2,none⟩ (.slice a2 k2 c2)).setCell ⟨K,3,none⟩ (.bool cu)) K (.slice a1 k1 c1) (.slice a2 k2 c2) (.bool cu)/\NatV (((w2.setCell ⟨K,1,none⟩ (.slice a1 k1 c1)).setCell ⟨K,2,none⟩ (.slice a2 k2 c2)).setCell ⟨K,3,none⟩ (.bool cu)) (.slice a1 k1 c1) (frN d (clP p))/\NatV (((w2.setCell ⟨K,1,none⟩ (.slice a1 k1 c1)).setCell ⟨K,2,none⟩ (.slice a2 k2 c2)).setCell ⟨K,3,none⟩ (.bool cu)) (.slice a2 k2 c2) (frD d (clP p))/\Bt mb w (((w2.setCell ⟨K,1,none⟩ (.slice a1 k1 c1)).setCell ⟨K,2,none⟩ (.slice a2 k2 c2)).setCell ⟨K,3,none⟩ (.bool cu))/\l<=l'/\l'<=l+512/\Mq mb e t (((w2.setCell ⟨K,1,none⟩ (.slice a1 k1 c1)).setCell ⟨K,2,none⟩ (.slice a2 k2 c2)).setCell ⟨K,3,none⟩ (.bool cu)) l' s):=⟨S3,N1,N2,B3,q1,q2,M3⟩
 clear K2 hc S1 S2 S3 N1 N2 M3 B3 n1 n2 b2 q1 q2 m2 FR HX hne
 go_wp2
 exact bodyPost_end (v:=.tuple #[]) (results_none Tryz.results117 _ _ _) rfl ⟨_,_,l',rfl,HE.out⟩
theorem aBa {mb:Option Nat}{e t l s:Int}{W:World}{K:Nat}{v1 v2 vn vd:Value}{cu:Bool}{X Y N D:Nat}(kk:WkB mb W K v1 v2 (.bool cu)) (m:Mq mb e t W l s) (l0:0<=l) (l1:l<=512) (h1:NatV W v1 X) (h2:NatV W v2 Y) (hn:NatV W vn N) (hd:NatV W vd D) (fa:X * D<B ^ 128) (fb:N * Y<B ^ 128) :
 Calls Tryz.prog 202 #[.pointer (some ⟨K,0,none⟩),vn,vd] W fun x W'=>x=.returned (vI (oc X Y cu N D))/\Bt mb W W'/\Mq mb e t W' l s:=by
 have H0:Hid (WkB mb W K v1 v2 (.bool cu)/\Mq mb e t W l s/\NatV W v1 X/\NatV W v2 Y/\NatV W vn N/\NatV W vd D/\0<=l/\l<=512/\X * D<B ^ 128/\N * Y<B ^ 128):=⟨kk,m,h1,h2,hn,hd,l0,l1,fa,fb⟩
 have OC:Hid (∀ o,o=ord (X * D) (N * Y) -> oc X Y cu N D=if o=0/\cu=true then 1 else o):=fun o ho=>by rw [ho];rfl
 generalize hoc:oc X Y cu N D=oo at *
 clear hoc
 have LV:=mG m
 have ha:=kk.a0
 clear kk m h1 h2 hn hd l0 l1 fa fb
 go_enter_defers Tryz.func202,Tryz.ntmps202
 go_wp2_with fail
 refine LV.mono ?_
 rintro x w1 ⟨rfl,b1⟩
 have H1:Hid (WkB mb w1 K v1 v2 (.bool cu)/\NatV w1 v1 X/\NatV w1 v2 Y/\NatV w1 vn N/\NatV w1 vd D/\Bl W w1):=⟨H0.out.1.step b1,H0.out.2.2.1.below b1,H0.out.2.2.2.1.below b1,H0.out.2.2.2.2.1.below b1,H0.out.2.2.2.2.2.1.below b1,b1⟩
 clear b1 ha LV
 have ha:=H1.out.1.a1
 have T1:=mJ H1.out.2.1 H1.out.2.2.2.2.1 H0.out.2.2.2.2.2.2.2.2.1
 go_wp2_with fail
 refine T1.mono ?_
 rintro x w2 ⟨v3,rfl,n3,b2⟩
 have H2:Hid (WkB mb w2 K v1 v2 (.bool cu)/\NatV w2 v2 Y/\NatV w2 vn N/\NatV w2 vd D/\NatV w2 v3 (X * D)/\Bl W w2):=⟨H1.out.1.step b2,H1.out.2.2.1.below b2,H1.out.2.2.2.1.below b2,H1.out.2.2.2.2.1.below b2,n3,H1.out.2.2.2.2.2.trans (b2.mono H1.out.2.2.2.2.2.size)⟩
 clear b2 n3 H1 T1 ha
 have ha:=H2.out.1.a2
 have T2:=mJ H2.out.2.2.1 H2.out.2.1 H0.out.2.2.2.2.2.2.2.2.2
 go_wp2_with fail
 refine T2.mono ?_
 rintro x w3 ⟨v4,rfl,n4,b3⟩
 have H3:Hid (WkB mb w3 K v1 v2 (.bool cu)/\NatV w3 vn N/\NatV w3 vd D/\NatV w3 v3 (X * D)/\NatV w3 v4 (N * Y)/\Bl W w3):=⟨H2.out.1.step b3,H2.out.2.2.1.below b3,H2.out.2.2.2.1.below b3,H2.out.2.2.2.2.1.below b3,n4,H2.out.2.2.2.2.2.trans (b3.mono H2.out.2.2.2.2.2.size)⟩
 clear b3 n4 H2 T2 ha
 obtain ⟨a1,k1,c1,rfl⟩:=aV H3.out.2.1
 obtain ⟨a2,k2,c2,rfl⟩:=aV H3.out.2.2.1
 obtain ⟨a3,k3,c3,rfl⟩:=aV H3.out.2.2.2.1
 obtain ⟨a4,k4,c4,rfl⟩:=aV H3.out.2.2.2.2.1
 have M3:Hid (Mq mb e t w3 l s):=H0.out.2.1.step H3.out.2.2.2.2.2
 have BA:Bl w3 (w3.alloc (.cells #[.slice a1 k1 c1,.slice a2 k2 c2,.slice a3 k3 c3,.slice a4 k4 c4] 203)):=bz _ _
 have TK:=oI (H3.out.1.step BA) (M3.out.step BA) (Rw4.new H3.out.2.1 H3.out.2.2.1 H3.out.2.2.2.1 H3.out.2.2.2.2.1 203 rfl) M3.out.lt H0.out.2.2.2.2.2.2.1 H0.out.2.2.2.2.2.2.2.1
 have H4:Hid (WkB mb (w3.alloc (.cells #[.slice a1 k1 c1,.slice a2 k2 c2,.slice a3 k3 c3,.slice a4 k4 c4] 203)) K v1 v2 (.bool cu)/\NatV (w3.alloc (.cells #[.slice a1 k1 c1,.slice a2 k2 c2,.slice a3 k3 c3,.slice a4 k4 c4] 203)) (.slice a3 k3 c3) (X * D)/\NatV (w3.alloc (.cells #[.slice a1 k1 c1,.slice a2 k2 c2,.slice a3 k3 c3,.slice a4 k4 c4] 203)) (.slice a4 k4 c4) (N * Y)/\Bt mb W (w3.alloc (.cells #[.slice a1 k1 c1,.slice a2 k2 c2,.slice a3 k3 c3,.slice a4 k4 c4] 203))/\Mq mb e t (w3.alloc (.cells #[.slice a1 k1 c1,.slice a2 k2 c2,.slice a3 k3 c3,.slice a4 k4 c4] 203)) l s):=⟨H3.out.1.step BA,H3.out.2.2.2.1.below BA,H3.out.2.2.2.2.1.below BA,Bt.of (H3.out.2.2.2.2.2.trans (BA.mono H3.out.2.2.2.2.2.size)),M3.out.step BA⟩
 clear BA M3 H3
 go_wp2_with fail
 refine TK.mono ?_
 rintro x w5 ⟨l',rfl,b5,q1,q2,m5⟩
 have H5:Hid (WkB mb w5 K v1 v2 (.bool cu)/\NatV w5 (.slice a3 k3 c3) (X * D)/\NatV w5 (.slice a4 k4 c4) (N * Y)/\Bt mb W w5/\l<=l'/\l'<=l+512/\Mq mb e t w5 l' s):=⟨H4.out.1.bt b5,H4.out.2.2.2.2.nat H4.out.2.1 b5,H4.out.2.2.2.2.nat H4.out.2.2.1 b5,H4.out.2.2.2.1.trans b5,q1,q2,m5⟩
 have CM:=aKy H5.out.2.1 H5.out.2.2.1
 clear b5 q1 q2 m5 H4 TK
 go_wp2_with fail
 refine CM.mono ?_
 rintro x w6 ⟨rfl,b6⟩
 have H6:Hid (WkB mb w6 K v1 v2 (.bool cu)/\Bt mb W w6/\l<=l'/\l'<=1024/\Mq mb e t w6 l' s):=⟨H5.out.1.step b6,H5.out.2.2.2.1.trans (Bt.of b6),H5.out.2.2.2.2.1,by have:=H5.out.2.2.2.2.2.1;have:=H0.out.2.2.2.2.2.2.2.1;omega,H5.out.2.2.2.2.2.2.step b6⟩
 clear b6 H5 CM
 have ha:=H6.out.1.a3
 have hoo:=OC.out _ rfl
 generalize ord (X * D) (N * Y)=od at *
 have HOO:Hid _:=hoo
 have LG:=nW H6.out.1 H6.out.2.2.2.2 H6.out.2.2.2.1 H0.out.2.2.2.2.2.2.1 H6.out.2.2.1 .returning
 clear hoo OC
 by_cases z:od=0
 . subst z
   cases cu
   . obtain rfl:oo=0:=by have:=HOO.out;simpa using this
     go_wp2
     refine leaves_cons (f:=115) (args:=#[.pointer (some ⟨K,0,none⟩),vI l]) (by simp) (by simp [go_sem]) ?_
     refine LG.mono ?_
     rintro x u' w7 ⟨rfl,rfl,b7,m7⟩
     exact ⟨_,results_tmp rfl _ _ _,rfl,H6.out.2.1.trans b7,m7⟩
   . obtain rfl:oo=1:=by have:=HOO.out;simpa using this
     go_wp2
     refine leaves_cons (f:=115) (args:=#[.pointer (some ⟨K,0,none⟩),vI l]) (by simp) (by simp [go_sem]) ?_
     refine LG.mono ?_
     rintro x u' w7 ⟨rfl,rfl,b7,m7⟩
     exact ⟨_,results_tmp rfl _ _ _,rfl,H6.out.2.1.trans b7,m7⟩
 . have zb:(od == 0)=false:=by rw [beq_eq_false_iff_ne];exact z
   have eo:od=oo:=by have:=HOO.out;rw [if_neg (fun y=>z y.1)] at this;exact this.symm
   subst eo
   go_wp2
   refine leaves_cons (f:=115) (args:=#[.pointer (some ⟨K,0,none⟩),vI l]) (by simp) (by simp [go_sem]) ?_
   refine LG.mono ?_
   rintro x u' w7 ⟨rfl,rfl,b7,m7⟩
   exact ⟨_,results_tmp rfl _ _ _,rfl,H6.out.2.1.trans b7,m7⟩
def Lim (X Y:Nat):Prop:=∃ a b:Nat,X<=2 ^ a/\Y<=2 ^ b/\a=4440/\b=4496
theorem aIZ {d:ByteArray}{p:Int}{cu:Bool}(h:VD d p cu):Lim (frN d (clP p)) (frD d (clP p)):=by
 obtain ⟨dg,_⟩:=h.dg
 have hs:d.size<=800:=by rcases h with ⟨h,_⟩ | h;omega;exact h.len
 obtain ⟨a,a1,a2⟩:=aBp hs dg (lU p).2
 obtain ⟨b,b1,b2⟩:=aIH hs (lU p).1
 exact ⟨a,b,a1,b1,a2,b2⟩
theorem Lim.fit {X Y N D m:Nat}{x:Int}(h:Lim X Y) (k:Frc N D m x) (hb:Bnd m x):X * D<B ^ 128/\N * Y<B ^ 128:=by
 obtain ⟨a,b,a1,b1,a2,b2⟩:=h
 obtain ⟨u,v,u1,v1,u2,v2⟩:=k.lim hb
 exact ⟨sF a1 u1 (by omega),sF v1 b1 (by omega)⟩
theorem aFY {z:Int}{g n f T:Nat}{L:Int}(hz:Fz z g n f T L) {b:Nat}(hb:b<n) {mb:Option Nat}{e t l s:Int}{w0 W:World}{K:Nat}{v1 v2:Value}{cu:Bool}{X Y:Nat}(kk:WkB mb W K v1 v2 (.bool cu)) (m:Mq mb e t W l s) (l0:0<=l) (l1:l<=512) (h1:NatV W v1 X) (h2:NatV W v2 Y) (lm:Lim X Y) (F:Frm mb w0 W) (hT:Tab w0) :
 Calls Tryz.prog 159 #[.pointer (some ⟨K,0,none⟩),vU (b:Int),vI z] W fun x W'=>∃ N D,x=.returned (vI (oc X Y cu N D))/\Frc N D (hM f b) (hX f L b)/\Bt mb W W'/\Mq mb e t W' l s:=by
 obtain ⟨_,hg,_,_⟩:=dA hz
 have HF:=aIP hz (b:=b) (by omega) hb W (F.tab hT)
 have H0:Hid (WkB mb W K v1 v2 (.bool cu)/\Mq mb e t W l s/\NatV W v1 X/\NatV W v2 Y/\Lim X Y/\0<=l/\l<=512/\Bnd (hM f b) (hX f L b)):=⟨kk,m,h1,h2,lm,l0,l1,xE hz hb⟩
 clear kk m h1 h2 lm l0 l1 hz hb hg F hT
 go_enter Tryz.func159,Tryz.ntmps159
 go_wp2_with fail
 refine HF.mono ?_
 rintro x w1 ⟨vn,vd,N,D,rfl,n1,n2,fr,b1⟩
 obtain ⟨fa,fb⟩:=H0.out.2.2.2.2.1.fit fr H0.out.2.2.2.2.2.2.2
 have AG:=aBa (H0.out.1.step b1) (H0.out.2.1.step b1) H0.out.2.2.2.2.2.1 H0.out.2.2.2.2.2.2.1 (H0.out.2.2.1.below b1) (H0.out.2.2.2.1.below b1) n1 n2 fa fb
 have H1:Hid (Frc N D (hM f b) (hX f L b)/\Bl W w1):=⟨fr,b1⟩
 clear fr b1 n1 n2 fa fb HF
 go_wp2_with fail
 refine AG.mono ?_
 rintro x w2 ⟨rfl,b2,m2⟩
 have H2:Hid (Bt mb W w2/\Mq mb e t w2 l s):=⟨(Bt.of H1.out.2).trans b2,m2⟩
 clear b2 m2 AG
 go_wp2
 go_ret
 exact ⟨N,D,rfl,H1.out.1,H2.out⟩
theorem aMC {z:Int}{g n f T:Nat}{L:Int}(hz:Fz z g n f T L) (w:World):Cb 47 #[.bool false,vI z] w (.tuple #[vU (n:Int),.nilIface]):=by
 have q:=nT hz false w
 have e:sgd g false (T * 2 ^ f)=n:=by rw [(dA hz).1];rfl
 rw [e] at q
 exact q
theorem aMe {z:Int}{g n f T:Nat}{L:Int}(hz:Fz z g n f T L) {b:Nat}(hb:b<n) (w:World):Cb 160 #[vU (b:Int),vI z] w (.tuple #[vU ((b:Int)+1),.nilIface]):=by
 obtain ⟨_,hg,h2,_⟩:=dA hz
 have em:mg g b=b:=Nat.mod_eq_of_lt (by omega)
 have HC:∀ W,Cb 203 #[vU (b:Int),vI z] W (.tuple #[vI (cl n b),.nilIface]):=by
  intro W
  rcases hz with ⟨rfl,rfl,rfl,rfl,rfl,rfl⟩ | ⟨rfl,rfl,rfl,rfl,rfl,rfl⟩
  . have q:=aKw (b:=b) (by omega) W
    rw [em] at q
    exact q
  . have q:=aKx (b:=b) (by omega) W
    rw [em] at q
    exact q
 refine aI9 (c:=cl n b) ?_ ?_ (by omega) (by omega) HC w
 . unfold cl
   split
   . rfl
   . first | rfl | (rw [if_pos hb];rfl)
 . unfold cl
   split
   . rfl
   . first | rfl | (rw [if_pos hb];rfl)
theorem aMs {z:Int}{g n f T:Nat}{L:Int}(hz:Fz z g n f T L) {mb:Option Nat}{e t l s:Int}{w0 W:World}{K:Nat}{v1 v2:Value}{cu:Bool}{X Y:Nat}(kk:WkB mb W K v1 v2 (.bool cu)) (m:Mq mb e t W l s) (l0:0<=l) (l1:l<=512) (h1:NatV W v1 X) (h2:NatV W v2 Y) (lm:Lim X Y) (F:Frm mb w0 W) (hT:Tab w0) {r0:Nat}(hr:r0<=n) (lo:r0=0 \/ ¬ Up f L X Y 0 cu (r0 - 1)) :
 Calls Tryz.prog 118 #[.pointer (some ⟨K,0,none⟩),vU (r0:Int),vI z] W fun x W'=>∃ (r:Nat) (er:Value),x=.returned (.tuple #[vU (r:Int),er])/\er=(if r=n then .iface 63 (vI 4) else .nilIface)/\r<=n/\(r=0 \/ ¬ Up f L X Y 0 cu (r - 1))/\(r<n -> Up f L X Y 0 cu r)/\Bt mb W W'/\Mq mb e t W' l s:=by
 have HZ:Hid (Fz z g n f T L/\Tab w0):=⟨hz,hT⟩
 have IN:=fun W=>aMC hz W
 have H0:Hid (WkB mb W K v1 v2 (.bool cu)/\Mq mb e t W l s/\NatV W v1 X/\NatV W v2 Y/\Lim X Y/\0<=l/\l<=512/\Frm mb w0 W/\r0<=n/\(r0=0 \/ ¬ Up f L X Y 0 cu (r0 - 1))):=⟨kk,m,h1,h2,lm,l0,l1,F,hr,lo⟩
 clear kk m h1 h2 lm l0 l1 F hr lo hz hT
 go_enter Tryz.func118,Tryz.ntmps118
 go_wp2_with fail
 go_step3
 go_wp2_with fail
 refine (IN _).mono ?_
 rintro x wa ⟨rfl,ba⟩
 have HA:Hid (Bl W wa):=ba
 clear ba IN
 go_wp2
 go_step3
 go_wp2
 go_loopw [1] (fun v wr=>∃ r:Nat,v=vU (r:Int)/\r<=n/\Hid ((r=0 \/ ¬ Up f L X Y 0 cu (r - 1))/\Bt mb W wr/\Mq mb e t wr l s)) (fun v _=>n - (intOf v).toNat)
 case atStart=>exact ⟨r0,rfl,H0.out.2.2.2.2.2.2.2.2.1,⟨H0.out.2.2.2.2.2.2.2.2.2,Bt.of HA.out,H0.out.2.1.step HA.out⟩⟩
 case round =>
  obtain ⟨r,rfl,hr,HI⟩:=hrel
  have HR:Hid (r<=n):=hr
  by_cases c1:r=n
  . subst c1
    clear hr
    go_wp2
    try rw [Exit.noGoto_ret]
    go_ret2
    exact ⟨r,_,rfl,by rw [if_pos rfl];rfl,Nat.le_refl _,HI.out.1,fun q=>absurd q (by omega),HI.out.2⟩
  . have hlt:r<n:=by omega
    have C1:Hid (r<n):=hlt
    have n1:((r:Int) != (n:Int))=true:=by rw [bne_iff_ne];omega
    have n2:((r:Int) == (n:Int))=false:=by rw [beq_eq_false_iff_ne];omega
    have AH:=aFY HZ.out.1 hlt (H0.out.1.bt HI.out.2.1) HI.out.2.2 H0.out.2.2.2.2.2.1 H0.out.2.2.2.2.2.2.1 (H0.out.2.1.nat H0.out.2.2.1 HI.out.2.1) (H0.out.2.1.nat H0.out.2.2.2.1 HI.out.2.1) H0.out.2.2.2.2.1 (H0.out.2.2.2.2.2.2.2.1.bt HI.out.2.1) HZ.out.2
    have NX:=fun W=>aMe HZ.out.1 hlt W
    clear hr hlt
    go_wp2_with fail
    refine AH.mono ?_
    rintro x w2 ⟨N,D,rfl,fr,b2,m2⟩
    have H2:Hid ((Up f L X Y 0 cu r ↔ (oc X Y cu N D = -1 \/ (oc X Y cu N D=0/\r % 2=0)))/\(r=0 \/ ¬ Up f L X Y 0 cu (r - 1))/\Bt mb W w2/\Mq mb e t w2 l s):=⟨wP fr fr.pos,HI.out.1,HI.out.2.1.trans b2,m2⟩
    clear fr b2 m2 AH HI
    rcases aG3 X Y cu N D with q | q | q
    . have U:Hid (Up f L X Y 0 cu r):=H2.out.1.2 (.inl q)
      rw [q]
      clear q NX n1
      go_wp2
      try rw [Exit.noGoto_ret]
      go_ret2
      exact ⟨r,_,rfl,by rw [if_neg c1];rfl,HR.out,H2.out.2.1,fun _=>U.out,H2.out.2.2⟩
    . by_cases ev:r % 2=0
      . have U:Hid (Up f L X Y 0 cu r):=H2.out.1.2 (.inr ⟨q,ev⟩)
        have e1:(r:Int) % 2=0:=by omega
        rw [q]
        clear q NX n1 ev
        go_wp2
        try rw [Exit.noGoto_ret]
        go_ret2
        exact ⟨r,_,rfl,by rw [if_neg c1];rfl,HR.out,H2.out.2.1,fun _=>U.out,H2.out.2.2⟩
      . have U:Hid (¬ Up f L X Y 0 cu r):=fun u=>by
         rcases H2.out.1.1 u with y | y
         . omega
         . exact ev y.2
        have e1:(r:Int) % 2=1:=by omega
        rw [q]
        clear q ev
        go_wp2_with fail
        refine (NX _).mono ?_
        rintro x w3 ⟨rfl,b3⟩
        have H3:Hid ((r+1=0 \/ ¬ Up f L X Y 0 cu (r+1 - 1))/\Bt mb W w3/\Mq mb e t w3 l s):=⟨.inr (by rw [Nat.add_sub_cancel];exact U.out),H2.out.2.2.1.trans (Bt.of b3),H2.out.2.2.2.step b3⟩
        clear b3 H2 NX U
        go_wp2
        go_roundw
        case rel=>exact ⟨r+1,by go_num,C1.out,H3⟩
        case measure=>have:=C1.out;simp [intOf];omega
    . have U:Hid (¬ Up f L X Y 0 cu r):=fun u=>by
       rcases H2.out.1.1 u with y | y <;> omega
      rw [q]
      clear q
      go_wp2_with fail
      refine (NX _).mono ?_
      rintro x w3 ⟨rfl,b3⟩
      have H3:Hid ((r+1=0 \/ ¬ Up f L X Y 0 cu (r+1 - 1))/\Bt mb W w3/\Mq mb e t w3 l s):=⟨.inr (by rw [Nat.add_sub_cancel];exact U.out),H2.out.2.2.1.trans (Bt.of b3),H2.out.2.2.2.step b3⟩
      clear b3 H2 NX U
      go_wp2
      go_roundw
      case rel=>exact ⟨r+1,by go_num,C1.out,H3⟩
      case measure=>have:=C1.out;simp [intOf];omega
theorem DcB.bt {mb:Option Nat}{W W':World}{K:Nat}{a b c:Value}(h:DcB W K a b c) (hb:Bt mb W W') (hn:mb ≠ some K):DcB W' K a b c:=by
 have k:=fun o=>hb.cell (p:=⟨K,o,none⟩) h.lt hn
 have j:=fun o=>hb.frozen (p:=⟨K,o,none⟩) h.lt hn
 exact ⟨Nat.lt_of_lt_of_le h.lt hb.size,(k 0).trans h.a0,(k 1).trans h.a1,(k 2).trans h.a2,(j 0).trans h.f0,(j 1).trans h.f1,(j 2).trans h.f2⟩
theorem aD1 {z:Int}{g n f T:Nat}{L:Int}(hz:Fz z g n f T L) {mb:Option Nat}{e t l s:Int}{w0 W:World}{K:Nat}{a b c:Value}(kk:WkB mb W K a b c) (m:Mq mb e t W l s) (l0:0<=l) (l1:l<=512) (F:Frm mb w0 W) (hT:Tab w0) {d:ByteArray}{p:Int}{cu:Bool}(hq:d.size<19) (hs:d.size<=800) (hd:DG d) (hf:∀ h0:0<d.size,(d[0]'h0).toNat ≠ 48) :
 Calls Tryz.prog 119 #[.pointer (some ⟨K,0,none⟩),dcV d p cu,vI z] W fun x W'=>x=.returned (vU (((rdA f T L (frN d (clP p)) (frD d (clP p)) 0 false).1:Nat):Int))/\Bt mb W W'/\Mq mb e t W' l s:=by
 have i1:(d.size:Int)<19:=by omega
 have i2:(if (d.size:Int)<19 then (d.size:Int) else 19)=(d.size:Int):=if_pos i1
 clear hq
 unfold dcV
 have BA:Bl W (W.alloc (.cells #[.string d,vI p,.bool cu] 41)):=bz _ _
 have HK:Hid (WkB mb (W.alloc (.cells #[.string d,vI p,.bool cu] 41)) K a b c/\Mq mb e t (W.alloc (.cells #[.string d,vI p,.bool cu] 41)) l s/\Bt mb W (W.alloc (.cells #[.string d,vI p,.bool cu] 41))/\mb ≠ some W.heap.size/\0<=l/\l<=512/\Frm mb w0 W/\Tab w0/\d.size<=800/\DG d/\(∀ h0:0<d.size,(d[0]'h0).toNat ≠ 48)/\Fz z g n f T L):=⟨kk.step BA,m.step BA,Bt.of BA,m.lt,l0,l1,F,hT,hs,hd,hf,hz⟩
 have HX:Hid (DcB (W.alloc (.cells #[.string d,vI p,.bool cu] 41)) W.heap.size (.string d) (vI p) (.bool cu)):=DcB.new _ _ _ _ _
 have LV:=mG HK.out.2.1
 have ha:=HK.out.1.a0
 clear kk m BA l0 l1 F hT hs hd hf hz
 go_enter_defers Tryz.func119,Tryz.ntmps119
 go_wp2_with fail
 refine LV.mono ?_
 rintro x w1 ⟨rfl,b1⟩
 have H1:Hid (DcB w1 W.heap.size (.string d) (vI p) (.bool cu)/\WkB mb w1 K a b c/\Mq mb e t w1 l s/\Bt mb W w1):=⟨HX.out.step b1,HK.out.1.step b1,HK.out.2.1.step b1,HK.out.2.2.1.trans (Bt.of b1)⟩
 clear b1 LV ha HX
 obtain ⟨_,d0,d1,d2,_,_,_⟩:=H1.out.1
 go_wp2_with fail
 go_region_held3 (fun w'=>w'.cell? ⟨W.heap.size,0,none⟩=some (.string d)/\w'.cell? ⟨W.heap.size,1,none⟩=some (vI p)) (simp [*,go_sem])
  (first
   | (go_at_call 158;refine (jC (H1.out.2.1.step (Below.refl w1.heap.size w1).drew) (H1.out.2.2.1.step (Below.refl w1.heap.size w1).drew) HK.out.2.2.2.2.1 HK.out.2.2.2.2.2.1 HK.out.2.2.2.2.2.2.2.2.1 HK.out.2.2.2.2.2.2.2.2.2.1 HK.out.2.2.2.2.2.2.2.2.2.2.1 p).mono ?_;rintro x w2 ⟨v1,v2,l',rfl,n1,n2,b2,q1,q2,m2⟩;have H2:Hid (NatV w2 v1 (frN d (clP p))/\NatV w2 v2 (frD d (clP p))/\Bt mb w1 w2/\l<=l'/\l'<=l+512/\Mq mb e t w2 l' s):=⟨n1,n2,(Bt.of (Below.refl w1.heap.size w1).drew).trans b2,q1,q2,m2⟩;have D2:=H1.out.1.bt H2.out.2.2.1 HK.out.2.2.2.1;have dd0:=D2.a0;have dd1:=D2.a1))
 have K2:Hid (WkB mb w2 K a b c/\Frm mb w0 w2):=⟨H1.out.2.1.bt H2.out.2.2.1,(HK.out.2.2.2.2.2.2.1.bt H1.out.2.2.2).bt H2.out.2.2.1⟩
 have RT:=aAc HK.out.2.2.2.2.2.2.2.2.2.2.2 false (e:=0) (by decide) (by decide) (K2.out.2.tab HK.out.2.2.2.2.2.2.2.1) H2.out.1 H2.out.2.1 (Nat.pos_iff_ne_zero.mp (bO _ _))
 have HRT:Hid (∀ r:Nat × Bool,r=rdA f T L (frN d (clP p)) (frD d (clP p)) 0 false -> sgd g false r.1=(rdA f T L (frN d (clP p)) (frD d (clP p)) 0 false).1):=fun r hr=>by rw [hr];rfl
 have hrr:=HRT.out _ rfl
 unfold anV at RT
 rw [hrr] at RT
 generalize (if (rdA f T L (frN d (clP p)) (frD d (clP p)) 0 false).2=true then Value.iface 63 (vI 4) else .nilIface)=ee at RT
 obtain ⟨rr,hr2⟩:∃ rr,rr=(rdA f T L (frN d (clP p)) (frD d (clP p)) 0 false).1:=⟨_,rfl⟩
 rw [<- hr2] at RT
 have HR:Hid (rr=(rdA f T L (frN d (clP p)) (frD d (clP p)) 0 false).1):=hr2
 clear hrr HRT hr2
 go_wp2_with fail
 refine RT.mono ?_
 rintro x w3 ⟨rfl,b3⟩
 have LG:=nW (K2.out.1.step b3) (H2.out.2.2.2.2.2.step b3) (by have:=H2.out.2.2.2.2.1;have:=HK.out.2.2.2.2.2.1;omega) HK.out.2.2.2.2.1 H2.out.2.2.2.1 .returning
 have B3:Hid (Bt mb W w3):=(H1.out.2.2.2.trans H2.out.2.2.1).trans (Bt.of b3)
 clear b3 RT
 go_wp2
 refine leaves_cons (f:=115) (args:=#[.pointer (some ⟨K,0,none⟩),vI l]) (by simp) (by simp [go_sem]) ?_
 refine LG.mono ?_
 rintro x u' w4 ⟨rfl,rfl,b4,m4⟩
 exact ⟨_,results_tmp rfl _ _ _,by rw [<- HR.out];rfl,B3.out.trans b4,m4⟩
theorem aCd {z:Int}{g n f T:Nat}{L:Int}(hz:Fz z g n f T L) {mb:Option Nat}{e t l s:Int}{w0 W:World}{K:Nat}{a b c:Value}(kk:WkB mb W K a b c) (m:Mq mb e t W l s) (l0:0<=l) (l1:l<=512) (F:Frm mb w0 W) (hT:Tab w0) {d:ByteArray}{p:Int}{cu:Bool}(hq:19<=d.size) (hs:(d.extract 0 19).size<=800) (hd:DG (d.extract 0 19)) (hf:∀ h0:0<(d.extract 0 19).size,((d.extract 0 19)[0]'h0).toNat ≠ 48) :
 Calls Tryz.prog 119 #[.pointer (some ⟨K,0,none⟩),dcV d p cu,vI z] W fun x W'=>x=.returned (vU (((rdA f T L (frN (d.extract 0 19) (clP p)) (frD (d.extract 0 19) (clP p)) 0 false).1:Nat):Int))/\Bt mb W W'/\Mq mb e t W' l s:=by
 have i1:¬ (d.size:Int)<19:=by omega
 have i3:(19:Int)<=(d.size:Int):=by omega
 have i2:(if (d.size:Int)<19 then (d.size:Int) else 19)=19:=if_neg i1
 clear hq
 unfold dcV
 have BA:Bl W (W.alloc (.cells #[.string d,vI p,.bool cu] 41)):=bz _ _
 have HK:Hid (WkB mb (W.alloc (.cells #[.string d,vI p,.bool cu] 41)) K a b c/\Mq mb e t (W.alloc (.cells #[.string d,vI p,.bool cu] 41)) l s/\Bt mb W (W.alloc (.cells #[.string d,vI p,.bool cu] 41))/\mb ≠ some W.heap.size/\0<=l/\l<=512/\Frm mb w0 W/\Tab w0/\(d.extract 0 19).size<=800/\DG (d.extract 0 19)/\(∀ h0:0<(d.extract 0 19).size,((d.extract 0 19)[0]'h0).toNat ≠ 48)/\Fz z g n f T L):=⟨kk.step BA,m.step BA,Bt.of BA,m.lt,l0,l1,F,hT,hs,hd,hf,hz⟩
 have HX:Hid (DcB (W.alloc (.cells #[.string d,vI p,.bool cu] 41)) W.heap.size (.string d) (vI p) (.bool cu)):=DcB.new _ _ _ _ _
 have LV:=mG HK.out.2.1
 have ha:=HK.out.1.a0
 clear kk m BA l0 l1 F hT hs hd hf hz
 go_enter_defers Tryz.func119,Tryz.ntmps119
 go_wp2_with fail
 refine LV.mono ?_
 rintro x w1 ⟨rfl,b1⟩
 have H1:Hid (DcB w1 W.heap.size (.string d) (vI p) (.bool cu)/\WkB mb w1 K a b c/\Mq mb e t w1 l s/\Bt mb W w1):=⟨HX.out.step b1,HK.out.1.step b1,HK.out.2.1.step b1,HK.out.2.2.1.trans (Bt.of b1)⟩
 clear b1 LV ha HX
 obtain ⟨_,d0,d1,d2,_,_,_⟩:=H1.out.1
 go_wp2_with fail
 go_region_held3 (fun w'=>w'.cell? ⟨W.heap.size,0,none⟩=some (.string d)/\w'.cell? ⟨W.heap.size,1,none⟩=some (vI p)) (simp [*,go_sem])
  (first
   | (go_at_call 158;refine (jC (H1.out.2.1.step (Below.refl w1.heap.size w1).drew) (H1.out.2.2.1.step (Below.refl w1.heap.size w1).drew) HK.out.2.2.2.2.1 HK.out.2.2.2.2.2.1 HK.out.2.2.2.2.2.2.2.2.1 HK.out.2.2.2.2.2.2.2.2.2.1 HK.out.2.2.2.2.2.2.2.2.2.2.1 p).mono ?_;rintro x w2 ⟨v1,v2,l',rfl,n1,n2,b2,q1,q2,m2⟩;have H2:Hid (NatV w2 v1 (frN (d.extract 0 19) (clP p))/\NatV w2 v2 (frD (d.extract 0 19) (clP p))/\Bt mb w1 w2/\l<=l'/\l'<=l+512/\Mq mb e t w2 l' s):=⟨n1,n2,(Bt.of (Below.refl w1.heap.size w1).drew).trans b2,q1,q2,m2⟩;have D2:=H1.out.1.bt H2.out.2.2.1 HK.out.2.2.2.1;have dd0:=D2.a0;have dd1:=D2.a1))
 have K2:Hid (WkB mb w2 K a b c/\Frm mb w0 w2):=⟨H1.out.2.1.bt H2.out.2.2.1,(HK.out.2.2.2.2.2.2.1.bt H1.out.2.2.2).bt H2.out.2.2.1⟩
 have RT:=aAc HK.out.2.2.2.2.2.2.2.2.2.2.2 false (e:=0) (by decide) (by decide) (K2.out.2.tab HK.out.2.2.2.2.2.2.2.1) H2.out.1 H2.out.2.1 (Nat.pos_iff_ne_zero.mp (bO _ _))
 have HRT:Hid (∀ r:Nat × Bool,r=rdA f T L (frN (d.extract 0 19) (clP p)) (frD (d.extract 0 19) (clP p)) 0 false -> sgd g false r.1=(rdA f T L (frN (d.extract 0 19) (clP p)) (frD (d.extract 0 19) (clP p)) 0 false).1):=fun r hr=>by rw [hr];rfl
 have hrr:=HRT.out _ rfl
 unfold anV at RT
 rw [hrr] at RT
 generalize (if (rdA f T L (frN (d.extract 0 19) (clP p)) (frD (d.extract 0 19) (clP p)) 0 false).2=true then Value.iface 63 (vI 4) else .nilIface)=ee at RT
 obtain ⟨rr,hr2⟩:∃ rr,rr=(rdA f T L (frN (d.extract 0 19) (clP p)) (frD (d.extract 0 19) (clP p)) 0 false).1:=⟨_,rfl⟩
 rw [<- hr2] at RT
 have HR:Hid (rr=(rdA f T L (frN (d.extract 0 19) (clP p)) (frD (d.extract 0 19) (clP p)) 0 false).1):=hr2
 clear hrr HRT hr2
 go_wp2_with fail
 refine RT.mono ?_
 rintro x w3 ⟨rfl,b3⟩
 have LG:=nW (K2.out.1.step b3) (H2.out.2.2.2.2.2.step b3) (by have:=H2.out.2.2.2.2.1;have:=HK.out.2.2.2.2.2.1;omega) HK.out.2.2.2.2.1 H2.out.2.2.2.1 .returning
 have B3:Hid (Bt mb W w3):=(H1.out.2.2.2.trans H2.out.2.2.1).trans (Bt.of b3)
 clear b3 RT
 go_wp2
 refine leaves_cons (f:=115) (args:=#[.pointer (some ⟨K,0,none⟩),vI l]) (by simp) (by simp [go_sem]) ?_
 refine LG.mono ?_
 rintro x u' w4 ⟨rfl,rfl,b4,m4⟩
 exact ⟨_,results_tmp rfl _ _ _,by rw [<- HR.out];rfl,B3.out.trans b4,m4⟩
theorem aCW {z:Int}{g n f T:Nat}{L:Int}(hz:Fz z g n f T L) {mb:Option Nat}{e t l s:Int}{w0 W:World}{K:Nat}{a b c:Value}(kk:WkB mb W K a b c) (m:Mq mb e t W l s) (l0:0<=l) (l1:l<=512) (F:Frm mb w0 W) (hT:Tab w0) {d:ByteArray}{p:Int}{cu:Bool}(h:VD d p cu) :
 Calls Tryz.prog 119 #[.pointer (some ⟨K,0,none⟩),dcV d p cu,vI z] W fun x W'=>∃ r:Nat,x=.returned (vU (r:Int))/\r<=n/\(r=0 \/ ¬ Up f L (frN d (clP p)) (frD d (clP p)) 0 cu (r - 1))/\Bt mb W W'/\Mq mb e t W' l s:=by
 obtain ⟨en,_,_,_⟩:=dA hz
 have hf0:0<f/\0<T:=by rcases hz with ⟨_,_,_,rfl,rfl,_⟩ | ⟨_,_,_,rfl,rfl,_⟩ <;> decide
 obtain ⟨dg,ds⟩:=h.dg
 have hs:d.size<=800:=by rcases h with ⟨h,_⟩ | h;omega;exact h.len
 have hf:∀ h0:0<d.size,(d[0]'h0).toNat ≠ 48:=by
  rcases h with ⟨h,_⟩ | h
  . intro h0;omega
  . intro _;exact h.first
 rcases Nat.lt_or_ge d.size 19 with q | q
 . refine (aD1 hz kk m l0 l1 F hT q hs dg hf).mono ?_
   rintro x w1 ⟨rfl,b1,m1⟩
   exact ⟨_,rfl,by rw [en];exact (fG hf0.2).1,yK hf0.1 (bO _ _) (bO _ _) (Nat.le_refl _),b1,m1⟩
 . have es:(d.extract 0 19).size=19:=by rw [ByteArray.size_extract];omega
   have eg:∀ k (hk:k<(d.extract 0 19).size),((d.extract 0 19)[k]'hk)=d[k]'(by omega):=fun k hk=>by
    rw [ByteArray.getElem_extract]
    congr 1
    omega
   refine (aCd hz kk m l0 l1 F hT q (by omega) (fun k hk=>by rw [eg k hk];exact dg k (by omega)) (fun h0=>by rw [eg 0 h0];exact hf (by omega))).mono ?_
   rintro x w1 ⟨rfl,b1,m1⟩
   exact ⟨_,rfl,by rw [en];exact (fG hf0.2).1,yK hf0.1 (bO _ _) (bO _ _) (aIR q _),b1,m1⟩
theorem jK {z:Int}{g n f T:Nat}{L:Int}(hz:Fz z g n f T L) (w:World):Cb 19 #[vU 0,vI z] w .nilIface:=by
 rcases hz with ⟨rfl,_⟩ | ⟨rfl,_⟩
 . exact aGd (b:=0) (by decide) w
 . exact aGe (b:=0) (by decide) w
theorem aHk {z:Int}{g n f T:Nat}{L:Int}(hz:Fz z g n f T L) {mb:Option Nat}{e t s:Int}{w0 W:World}(m:Mq mb e t W 0 s) (s0:0<=s) (s1:s<=100) (F:Frm mb w0 W) (hT:Tab w0) {d:ByteArray}{p:Int}{cu:Bool}(h:VD d p cu) :
 Calls Tryz.prog 82 #[dcV d p cu,vI z,mqV mb] W fun x W'=>(∃ (r:Nat) (er:Value),x=.returned (.tuple #[vU (r:Int),er])/\nrX f T L d p cu=(r,decide (r=n))/\er=(if r=n then .iface 63 (vI 4) else .nilIface))/\Bt mb W W'/\Mq mb e t W' 0 (s+1):=by
 have CK:=fun W=>jK hz W
 have V:=fun W=>aCb h W
 obtain ⟨po,hpo⟩:∃ po,mqV mb=.pointer po:=by cases mb <;> exact ⟨_,rfl⟩
 rw [hpo]
 unfold dcV at *
 have HZ:Hid (Fz z g n f T L/\Tab w0/\VD d p cu/\Frm mb w0 W/\Mq mb e t W 0 s):=⟨hz,hT,h,F,m⟩
 have HN:Hid (mb ≠ some W.heap.size):=m.lt
 have HX:Hid (DcB (W.alloc (.cells #[.string d,vI p,.bool cu] 41)) W.heap.size (.string d) (vI p) (.bool cu)/\Bl W (W.alloc (.cells #[.string d,vI p,.bool cu] 41))):=⟨DcB.new _ _ _ _ _,bz _ _⟩
 clear hz hT h F m
 go_enter_defers Tryz.func82,Tryz.ntmps82
 go_wp2_with fail
 refine (CK _).mono ?_
 rintro x wz ⟨rfl,bz⟩
 have HZ1:Hid (DcB wz W.heap.size (.string d) (vI p) (.bool cu)/\Bl W wz):=⟨HX.out.1.step bz,HX.out.2.trans (bz.mono HX.out.2.size)⟩
 clear bz HX
 obtain ⟨_,d0,d1,d2,_,_,_⟩:=HZ1.out.1
 go_wp2_with fail
 refine (V _).mono ?_
 rintro x w1 ⟨rfl,b1⟩
 have H1:Hid (DcB w1 W.heap.size (.string d) (vI p) (.bool cu)/\Bl W w1):=⟨HZ1.out.1.step b1,HZ1.out.2.trans (b1.mono HZ1.out.2.size)⟩
 clear b1 HZ1 d0 d1 d2
 obtain ⟨_,d0,d1,d2,_,_,_⟩:=H1.out.1
 have M1:=HZ.out.2.2.2.2.step H1.out.2
 have WK:=WkB.new (mb:=mb) w1 205 M1.lt
 rw [hpo] at WK
 have BA:Bl w1 (w1.alloc (.cells #[.pointer po,.slice none 0 0,.slice none 0 0,.bool false] 205)):=bz _ _
 have LV:=mG (M1.step BA)
 rw [hpo] at LV
 have H2:Hid (WkB mb (w1.alloc (.cells #[.pointer po,.slice none 0 0,.slice none 0 0,.bool false] 205)) w1.heap.size (.slice none 0 0) (.slice none 0 0) (.bool false)/\Mq mb e t (w1.alloc (.cells #[.pointer po,.slice none 0 0,.slice none 0 0,.bool false] 205)) 0 s/\Bt mb w1 (w1.alloc (.cells #[.pointer po,.slice none 0 0,.slice none 0 0,.bool false] 205))):=⟨WK,M1.step BA,Bt.of BA⟩
 clear WK M1 BA d0 d1 d2
 go_wp2_with fail
 refine LV.mono ?_
 rintro x w2 ⟨rfl,b2⟩
 have H3:Hid (WkB mb w2 w1.heap.size (.slice none 0 0) (.slice none 0 0) (.bool false)/\Mq mb e t w2 0 s/\Bt mb w1 w2):=⟨H2.out.1.step b2,H2.out.2.1.step b2,H2.out.2.2.trans (Bt.of b2)⟩
 clear b2 H2 LV
 have RQ:=aLz H3.out.2.1 s0 s1
 rw [hpo] at RQ
 have ha:=H3.out.1.a0
 rw [hpo] at ha
 go_wp2_with fail
 refine RQ.mono ?_
 rintro x w3 ⟨rfl,b3,m3⟩
 have H3':Hid (WkB mb w3 w1.heap.size (.slice none 0 0) (.slice none 0 0) (.bool false)/\Mq mb e t w3 0 (s+1)/\Bt mb w1 w3):=⟨H3.out.1.bt b3,m3,H3.out.2.2.trans b3⟩
 clear b3 m3 H3 ha RQ
 have H3:=H3'
 clear H3'
 have HO:=aIW H3.out.1 H3.out.2.1 (by decide) (by decide) HZ.out.2.2.1 H3.out.2.2 (Nat.le_refl _)
 have D3:=H1.out.1.bt H3.out.2.2 HN.out
 obtain ⟨_,d0,d1,d2,_,_,_⟩:=D3
 unfold dcV at HO
 go_wp2_with fail
 refine HO.mono ?_
 rintro x w4 ⟨v1,v2,l',rfl,kk,n1,n2,b4,q1,q2,m4⟩
 have H4:Hid (WkB mb w4 w1.heap.size v1 v2 (.bool cu)/\NatV w4 v1 (frN d (clP p))/\NatV w4 v2 (frD d (clP p))/\Bt mb W w4/\0<=l'/\l'<=512/\Mq mb e t w4 l' (s+1)/\Frm mb w0 w4):=⟨kk,n1,n2,(Bt.of H1.out.2).trans b4,q1,by omega,m4,HZ.out.2.2.2.1.bt ((Bt.of H1.out.2).trans b4)⟩
 have D4:Hid (DcB w4 W.heap.size (.string d) (vI p) (.bool cu)):=H1.out.1.bt b4 HN.out
 clear kk n1 n2 b4 q1 q2 m4 H3 HO d0 d1 d2
 obtain ⟨_,d0,d1,d2,_,_,_⟩:=D4.out
 have GU:=aCW HZ.out.1 H4.out.1 H4.out.2.2.2.2.2.2.1 H4.out.2.2.2.2.1 H4.out.2.2.2.2.2.1 H4.out.2.2.2.2.2.2.2 HZ.out.2.1 HZ.out.2.2.1
 unfold dcV at GU
 go_wp2_with fail
 refine GU.mono ?_
 rintro x w5 ⟨r0,rfl,g1,g2,b5,m5⟩
 have UP:=aMs HZ.out.1 (H4.out.1.bt b5) m5 H4.out.2.2.2.2.1 H4.out.2.2.2.2.2.1 (H4.out.2.2.2.2.2.2.1.nat H4.out.2.1 b5) (H4.out.2.2.2.2.2.2.1.nat H4.out.2.2.1 b5) (aIZ HZ.out.2.2.1) (H4.out.2.2.2.2.2.2.2.bt b5) HZ.out.2.1 g1 g2
 have H5:Hid (WkB mb w5 w1.heap.size v1 v2 (.bool cu)/\Bt mb W w5):=⟨H4.out.1.bt b5,H4.out.2.2.2.1.trans b5⟩
 clear g1 g2 b5 m5 GU d0 d1 d2
 go_wp2_with fail
 refine UP.mono ?_
 rintro x w6 ⟨r,er,rfl,he,g1,g2,g3,b6,m6⟩
 have LG:=nW (H5.out.1.bt b6) m6 (by have:=H4.out.2.2.2.2.2.1;omega) (Int.le_refl 0) H4.out.2.2.2.2.1 .returning
 have H6:Hid (Bt mb W w6/\nrX f T L d p cu=(r,decide (r=n))/\er=(if r=n then .iface 63 (vI 4) else .nilIface)):=⟨H5.out.2.trans b6,aG0 HZ.out.1 HZ.out.2.2.1 g1 g2 g3,he⟩
 clear b6 m6 g1 g2 g3 he UP
 go_wp2
 refine leaves_cons (f:=115) (args:=#[.pointer (some ⟨w1.heap.size,0,none⟩),vI 0]) (by simp) (by simp [go_sem]) ?_
 refine LG.mono ?_
 rintro x u' w7 ⟨rfl,rfl,b7,m7⟩
 exact ⟨_,results_tmp2 rfl _ _ _,⟨r,er,rfl,H6.out.2⟩,H6.out.1.trans b7,m7⟩
end Go.Proofs.YtejgpbhionadbaaGreatDoor
