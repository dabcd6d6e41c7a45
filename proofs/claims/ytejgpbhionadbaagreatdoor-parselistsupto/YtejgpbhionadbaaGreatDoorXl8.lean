/-
  Holds: UEwE.
-/
import Derived.Laws.BitsAllLaws
import Derived.Test.YtejgpbhionadbaaGreatDoorChecked
import Derived.Lib.ItoaNum
import Derived.Laws.Externs
import Derived.WalkKit
import Derived.WalkSpells
import Derived.WalkLawsBesides
import Derived.Lib.Mul64
import Derived.Lib.TrailingZeros
import Derived.Deep.OwnRows
import Derived.Laws.CopyOwn
import Derived.BigQuiet
import Derived.Deep.RegionHeld3
import Derived.Deep.LoopGhost
import Derived.Deep.AppendLies
import Derived.Deep.DeepCutAuto
import Derived.Stop.Asserts
import Derived.RowKitTokens
import Derived.Lib.Strings
import Derived.Lib.BufferWrite
import Derived.Lib.ConvBytes
import Derived.Test.YtejgpbhionadbaaGreatDoorXl6
import Derived.Test.YtejgpbhionadbaaGreatDoorXl7
set_option maxRecDepth 100000
set_option maxHeartbeats 4000000
namespace Go.Proofs.YtejgpbhionadbaaGreatDoor
open Go.RowKit
structure DcB (W:World) (K:Nat) (a b c:Value):Prop where
 lt:K<W.heap.size
 a0:W.cell? ⟨K,0,none⟩=some a
 a1:W.cell? ⟨K,1,none⟩=some b
 a2:W.cell? ⟨K,2,none⟩=some c
 f0:W.frozen? ⟨K,0,none⟩=false
 f1:W.frozen? ⟨K,1,none⟩=false
 f2:W.frozen? ⟨K,2,none⟩=false
theorem DcB.step {W W':World}{K:Nat}{a b c:Value}(h:DcB W K a b c) (hb:Bl W W'):DcB W' K a b c:=by
 have k:=fun o=>hb.cell (p:=⟨K,o,none⟩) h.lt
 have j:=fun o=>hb.frozen (p:=⟨K,o,none⟩) h.lt
 exact ⟨Nat.lt_of_lt_of_le h.lt hb.size,(k 0).trans h.a0,(k 1).trans h.a1,(k 2).trans h.a2,(j 0).trans h.f0,(j 1).trans h.f1,(j 2).trans h.f2⟩
theorem DcB.new (W:World) (a b c:Value) (T:TypeId):DcB (W.alloc (.cells #[a,b,c] T)) W.heap.size a b c :=
 ⟨by simp,by simp,by simp,by simp,World.frozen?_alloc_new _ _ _ _,World.frozen?_alloc_new _ _ _ _,World.frozen?_alloc_new _ _ _ _⟩
def nrP (p:Int):Int:=if 500<p then 500 else if p < -500 then -500 else p
theorem qS (p:Int):-500<=nrP p/\nrP p<=500:=by unfold nrP;split <;> (try split) <;> omega
theorem aLc {s:ByteArray}(hs:0<s.size) (p:Int) (c:Bool) (w:World):Cb 125 #[dcV s p c] w (dcV s (nrP p) c):=by
 have hE:=aI hs
 unfold dcV nrP
 by_cases c1:500<p
 . rw [if_pos c1]
   have c2:(-500:Int)<500:=by decide
   go_enter Tryz.func125,Tryz.ntmps125
   go_wp2
   refine bodyPost_ret (v:=.agg #[.string s,vI 500,.bool c]) (by simp [results,Tryz.results125,go_sem]) rfl ⟨rfl,(bz _ _).alloc (by simp) _⟩
 . rw [if_neg c1]
   have c2:p<=500:=by omega
   by_cases c3:p < -500
   . rw [if_pos c3]
     have c4:p <= -500:=by omega
     go_enter Tryz.func125,Tryz.ntmps125
     go_wp2
     refine bodyPost_ret (v:=.agg #[.string s,vI (-500),.bool c]) (by simp [results,Tryz.results125,go_sem]) rfl ⟨rfl,(bz _ _).alloc (by simp) _⟩
   . rw [if_neg c3]
     by_cases c5:p = -500
     . subst c5
       go_enter Tryz.func125,Tryz.ntmps125
       go_wp2
       refine bodyPost_ret (v:=.agg #[.string s,vI (-500),.bool c]) (by simp [results,Tryz.results125,go_sem]) rfl ⟨rfl,(bz _ _).alloc (by simp) _⟩
     . have c4:-500<p:=by omega
       go_enter Tryz.func125,Tryz.ntmps125
       go_wp2
       refine bodyPost_ret (v:=.agg #[.string s,vI p,.bool c]) (by simp [results,Tryz.results125,go_sem]) rfl ⟨rfl,(bz _ _).alloc (by simp) _⟩
theorem aIK {s:ByteArray}(hs:s.size<=801) (hd:DG s) {p:Int}(c:Bool) (h1:p<=500) {k:Nat}(hk:p=(s.size:Int)+k) (w:World):Calls Tryz.prog 124 #[dcV s p c] w fun e w'=>∃ v1 v2,e=.returned (.tuple #[v1,v2])/\Big.NatV w' v1 (dvA s 0 s.size * 10 ^ k)/\Big.NatV w' v2 1/\Bl w w':=by
 have T0:=fun W=>aH1 hs hd W
 have T1:=fun W=>rB 10 k (by decide) (by decide) (by omega) W
 rw [show ((10:Nat):Int)=10 from rfl] at T1
 have T2:=fun W=>bD 1 (by unfold B;decide) W
 rw [show ((1:Nat):Int)=1 from rfl] at T2
 have FF:Hid (Fits 1000 (dvA s 0 s.size)/\Fits 1000 (10 ^ k)):=⟨hH hd (by omega),pE (by decide) (by omega)⟩
 have ek:p - (s.size:Int)=(k:Int):=by omega
 have k0:(0:Int)<=(k:Int):=by omega
 clear hk hd
 unfold dcV
 go_enter Tryz.func124,Tryz.ntmps124
 go_wp2_with fail
 refine (T0 _).mono ?_
 rintro e w1 ⟨v1,rfl,n1,b1⟩
 have D1:Hid (DcB w1 w.heap.size (.string s) (vI p) (.bool c)):=(DcB.new w _ _ _ _).step b1
 have N1:Hid (Big.NatV w1 v1 (dvA s 0 s.size)/\Bl w w1):=⟨n1,(bz _ _).trans (b1.mono (by simp))⟩
 clear n1 b1 T0
 obtain ⟨_,a0,a1,a2,_,_,_⟩:=D1.out
 go_wp2_with fail
 refine (T1 _).mono ?_
 rintro e w2 ⟨v2,rfl,n2,b2⟩
 have N2:Hid (Big.NatV w2 v2 (10 ^ k)/\Big.NatV w2 v1 (dvA s 0 s.size)/\Bl w w2):=⟨n2,N1.out.1.below b2,N1.out.2.trans (b2.mono N1.out.2.size)⟩
 clear n2 b2 T1 N1 a0 a1 a2 D1
 have T:=eJ N2.out.2.1 N2.out.1 FF.out.1 FF.out.2
 go_wp2_with fail
 refine T.mono ?_
 rintro e w3 ⟨v3,rfl,n3,b3⟩
 have N3:Hid (Big.NatV w3 v3 (dvA s 0 s.size * 10 ^ k)/\Bl w w3):=⟨n3,N2.out.2.2.trans (b3.mono N2.out.2.2.size)⟩
 clear n3 b3 T N2
 go_wp2_with fail
 refine (T2 _).mono ?_
 rintro e w4 ⟨v4,rfl,n4,b4⟩
 have N4:Hid (Big.NatV w4 v3 (dvA s 0 s.size * 10 ^ k)/\Big.NatV w4 v4 1/\Bl w w4):=⟨N3.out.1.below b4,n4,N3.out.2.trans (b4.mono N3.out.2.size)⟩
 clear n4 b4 T2 N3
 go_wp2
 exact bodyPost_ret (v:=.tuple #[v3,v4]) (by simp [results,Tryz.results124,go_sem]) rfl ⟨v3,v4,rfl,N4.out.1,N4.out.2.1,N4.out.2.2⟩
theorem aII {s:ByteArray}(hs:s.size<=801) (hd:DG s) {p:Int}(c:Bool) {k:Nat}(k0:0<k) (k9:k<=2400) (hk:(s.size:Int)=p+k) (w:World):Calls Tryz.prog 124 #[dcV s p c] w fun e w'=>∃ v1 v2,e=.returned (.tuple #[v1,v2])/\Big.NatV w' v1 (dvA s 0 s.size)/\Big.NatV w' v2 (10 ^ k)/\Bl w w':=by
 have T0:=fun W=>aH1 hs hd W
 have T1:=fun W=>rB 10 k (by decide) (by decide) k9 W
 rw [show ((10:Nat):Int)=10 from rfl] at T1
 have ek:p - (s.size:Int) = -(k:Int):=by omega
 have k1:¬ (0:Int) <= -(k:Int):=by omega
 have p1:-9000000000<=p/\p<=801:=by omega
 clear hk hd k0
 unfold dcV
 go_enter Tryz.func124,Tryz.ntmps124
 go_wp2_with fail
 refine (T0 _).mono ?_
 rintro e w1 ⟨v1,rfl,n1,b1⟩
 have D1:Hid (DcB w1 w.heap.size (.string s) (vI p) (.bool c)):=(DcB.new w _ _ _ _).step b1
 have N1:Hid (Big.NatV w1 v1 (dvA s 0 s.size)/\Bl w w1):=⟨n1,(bz _ _).trans (b1.mono (by simp))⟩
 clear n1 b1 T0
 obtain ⟨_,a0,a1,a2,_,_,_⟩:=D1.out
 go_wp2_with fail
 refine (T1 _).mono ?_
 rintro e w2 ⟨v2,rfl,n2,b2⟩
 have N2:Hid (Big.NatV w2 v2 (10 ^ k)/\Big.NatV w2 v1 (dvA s 0 s.size)/\Bl w w2):=⟨n2,N1.out.1.below b2,N1.out.2.trans (b2.mono N1.out.2.size)⟩
 clear n2 b2 T1 N1 a0 a1 a2 D1
 go_wp2
 exact bodyPost_ret (v:=.tuple #[v1,v2]) (by simp [results,Tryz.results124,go_sem]) rfl ⟨v1,v2,rfl,N2.out.2.1,N2.out.1,N2.out.2.2⟩
def frN (s:ByteArray) (p:Int):Nat:=dvA s 0 s.size * 10 ^ (p - s.size).toNat
def frD (s:ByteArray) (p:Int):Nat:=10 ^ ((s.size:Int) - p).toNat
theorem aKN {s:ByteArray}(hs:s.size<=801) (hd:DG s) {p:Int}(c:Bool) (h0:-500<=p) (h1:p<=500) (w:World):Calls Tryz.prog 124 #[dcV s p c] w fun e w'=>∃ v1 v2,e=.returned (.tuple #[v1,v2])/\Big.NatV w' v1 (frN s p)/\Big.NatV w' v2 (frD s p)/\Bl w w':=by
 unfold frN frD
 by_cases q:(s.size:Int)<=p
 . obtain ⟨k,hk⟩:∃ k:Nat,p=(s.size:Int)+k:=⟨(p - s.size).toNat,by omega⟩
   rw [show (p - (s.size:Int)).toNat=k from by omega,show ((s.size:Int) - p).toNat=0 from by omega,Nat.pow_zero]
   exact aIK hs hd c h1 hk w
 . obtain ⟨k,hk⟩:∃ k:Nat,(s.size:Int)=p+k:=⟨((s.size:Int) - p).toNat,by omega⟩
   rw [show (p - (s.size:Int)).toNat=0 from by omega,show ((s.size:Int) - p).toNat=k from by omega,Nat.pow_zero,Nat.mul_one]
   exact aII hs hd c (by omega) (by omega) hk w
theorem aGw {s:ByteArray}(hs:s.size<=801) (hd:DG s) {p:Int}(h1:p<=500):Fits 256 (frN s p):=by
 unfold frN
 have a:=dN hd 0 s.size
 refine cF (k:=s.size+(p - s.size).toNat) ?_ (by omega)
 rw [Nat.pow_add]
 exact Nat.mul_le_mul_right _ (Nat.le_of_lt a)
theorem aGv {s:ByteArray}(hs:s.size<=801) {p:Int}(h0:-500<=p):Fits 256 (frD s p):=cF (Nat.le_refl _) (by omega)
theorem aIx {s:ByteArray}(hd:DG s) (hf:dgt s 0 ≠ 48) {k:Nat}(hk:0<k):0<dvA s 0 k:=by
 obtain ⟨j,rfl⟩:∃ j,k=1+j:=⟨k - 1,by omega⟩
 rw [gK]
 have:=gZ hd 0
 have e:dvA s 0 1=dgt s 0 - 48:=by rw [bH,Nat.add_zero];show 0 * 10+_=_;omega
 have:=Nat.mul_pos (show 0<dvA s 0 1 by omega) (Nat.pow_pos (n:=j) (show 0<10 by decide))
 omega
theorem VN.val {s:ByteArray}{p:Int}{c:Bool}(h:VN s p c):0<dvA s 0 s.size:=aIx h.dg (by rw [cO h.pos];exact h.first) h.pos
end Go.Proofs.YtejgpbhionadbaaGreatDoor
