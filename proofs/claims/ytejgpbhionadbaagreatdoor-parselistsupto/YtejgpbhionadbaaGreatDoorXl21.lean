/-
  Holds: UEwH ULawENear PsM PsA.
-/
import Derived.Test.YtejgpbhionadbaaGreatDoorShelf
import Derived.Lib.ItoaNum
import Derived.WalkSpells
import Derived.WalkLawsBesides
import Derived.Lib.Mul64
import Derived.Lib.TrailingZeros
import Derived.Deep.OwnRows
import Derived.Laws.CopyOwn
import Derived.BigQuiet
import Derived.Deep.RegionHeld3
import Derived.Deep.LoopGhost
import Derived.Deep.AppendLies
import Derived.Deep.DeepCutAuto
import Derived.Stop.Asserts
import Derived.RowKitTokens
import Derived.Lib.BufferWrite
import Derived.Lib.ConvBytes
import Derived.Test.YtejgpbhionadbaaGreatDoorRows
import Derived.Test.YtejgpbhionadbaaGreatDoorXl9
import Derived.Test.YtejgpbhionadbaaGreatDoorXl11
import Derived.Test.YtejgpbhionadbaaGreatDoorXl20
set_option maxRecDepth 100000
set_option maxHeartbeats 4000000
namespace Go.Proofs.YtejgpbhionadbaaGreatDoor
open Go.RowKit
theorem aLR {s:Int}{f T:Nat}{L:Int}{M K:Nat}(h:Xz s f T L M K):0<f/\2<=T/\M<=9007199254740992/\K<=22:=by
 rcases h with ⟨rfl,rfl,rfl,rfl,rfl,rfl⟩ | ⟨rfl,rfl,rfl,rfl,rfl,rfl⟩ <;> decide
theorem aMo:(rdA 23 255 (-149) (16777216 * 10 ^ 10) 1 0 false).1<255 * 2 ^ 23:=by decide +kernel
theorem aMp:(rdA 52 2047 (-1074) (9007199254740992 * 10 ^ 22) 1 0 false).1<2047 * 2 ^ 52:=by decide +kernel
theorem aLS {s:Int}{f T:Nat}{L:Int}{M K:Nat}(h:Xz s f T L M K):(rdA f T L (M * 10 ^ K) 1 0 false).1<T * 2 ^ f:=by
 rcases h with ⟨rfl,rfl,rfl,rfl,rfl,rfl⟩ | ⟨rfl,rfl,rfl,rfl,rfl,rfl⟩
 . exact aMo
 . exact aMp
theorem aIy {s:Int}{f T:Nat}{L:Int}{M K:Nat}(h:Xz s f T L M K) {m:Nat}{e:Int}(hm:m<=M) (h1:e<=K):exA f T L m e<T * 2 ^ f:=by
 obtain ⟨pf,_,_,_⟩:=aLR h
 have a:(rdA f T L (m * 10 ^ e.toNat) (10 ^ (-e).toNat) 0 false).1<=(rdA f T L (m * 10 ^ e.toNat * 10 ^ (-e).toNat) (10 ^ (-e).toNat) 0 false).1:=aAg pf (fS _) (Nat.le_mul_of_pos_right _ (Nat.pow_pos (by decide)))
 have b:rdA f T L (m * 10 ^ e.toNat * 10 ^ (-e).toNat) (10 ^ (-e).toNat) 0 false=rdA f T L (m * 10 ^ e.toNat) 1 0 false:=kT pf (fS _) (by decide) (by rw [Nat.mul_one];exact ⟨0,Int.le_refl _,Int.le_refl _,rfl⟩)
 have c:(rdA f T L (m * 10 ^ e.toNat) 1 0 false).1<=(rdA f T L (M * 10 ^ K) 1 0 false).1:=aAg pf (by decide) (Nat.mul_le_mul hm (Nat.pow_le_pow_right (by decide) (by omega)))
 have d:=aLS h
 rw [b] at a
 unfold exA
 omega
end Go.Proofs.YtejgpbhionadbaaGreatDoor
namespace Go.Proofs.YtejgpbhionadbaaGreatDoor
theorem aIQ {d:ByteArray}{p:Int}{c:Bool}(h:VN d p c):0<hdM d:=by
 have k0:0<hdK d:=by have:=h.pos;unfold hdK;omega
 have a:=aDM h.dg (by rw [cO h.pos];exact h.first) k0
 have b:0<10 ^ (hdK d - 1):=Nat.pow_pos (by decide)
 unfold hdM
 omega
theorem fA {z:Int}{g n f T:Nat}{L:Int}(hz:Fz z g n f T L):0<f/\2<=T/\n=T * 2 ^ f/\n<g/\2 * g<=18446744073709551616:=by
 rcases hz with ⟨_,rfl,rfl,rfl,rfl,rfl⟩ | ⟨_,rfl,rfl,rfl,rfl,rfl⟩ <;> exact ⟨by decide,by decide,by decide,by decide,by decide⟩
theorem aGt {z:Int}{f T:Nat}{L:Int}{M K:Nat}(hx:Xz z f T L M K) {d:ByteArray}{p:Int}(h:VN d p false) (hs:d.size<=19) (hm:hdM d<=M) (h0:-(K:Int)<=hdE d p) (h1:hdE d p<=K) :
 nrX f T L d p false=(exA f T L (hdM d) (hdE d p),false):=by
 have fin:=aIy hx hm h1
 have hk:hdK d=d.size:=by unfold hdK;omega
 have hK:K<=22:=by rcases hx with ⟨_,_,_,_,_,rfl⟩ | ⟨_,_,_,_,_,rfl⟩ <;> decide
 have hT:0<T:=by rcases hx with ⟨_,_,rfl,_⟩ | ⟨_,_,rfl,_⟩ <;> decide
 unfold hdE at h0 h1
 have np:nrP p=p:=by unfold nrP;rw [if_neg (by omega),if_neg (by omega)]
 have e:nrX f T L d p false=rdA f T L (hdM d * 10 ^ (hdE d p).toNat) (10 ^ (-(hdE d p)).toNat) 0 false:=by
  unfold nrX
  rw [if_neg (by have:=h.pos;omega),np]
  unfold frN frD hdM hdE
  rw [hk,show -(p - (d.size:Int))=(d.size:Int) - p from by omega]
 have q:=(fG (f:=f) (T:=T) (L:=L) (n:=hdM d * 10 ^ (hdE d p).toNat) (d:=10 ^ (-(hdE d p)).toNat) (e:=0) (more:=false) hT).2
 rw [e]
 unfold exA at fin ⊢
 revert fin q
 generalize rdA f T L (hdM d * 10 ^ (hdE d p).toNat) (10 ^ (-(hdE d p)).toNat) 0 false=r
 obtain ⟨r1,r2⟩:=r
 intro fin q
 have:r2=false:=by
  cases r2
  . rfl
  . exact absurd (q.1 rfl) (Nat.ne_of_lt fin)
 rw [this]
theorem aMj {z:Int}{g n f T:Nat}{L:Int}(hz:Fz z g n f T L) {d:ByteArray}{p q:Int}{c:Bool}(h:VN d p c) (a:Alk (nrP p) q) {x:Nat}
 (hx:∀ y,NrT f T L (frN d q) (frD d q) 0 (if c then 1 else 0) y -> y=x):nrX f T L d p c=(x,decide (x=n)):=by
 obtain ⟨f0,T2,hn,_,_⟩:=fA hz
 have n0:frN d q ≠ 0:=iA h
 have d0:frD d q ≠ 0:=Nat.ne_of_gt (bO d q)
 obtain ⟨b,hb⟩:=rF f0 (L:=L) (e:=0) (if c then 1 else 0) n0 d0
 have hy:=hx _ ⟨b,hb,rfl⟩
 have rd:RD f L (frN d q) (frD d q) 0 c b:=by
  cases c
  . exact aFW.1 hb
  . exact (aFV (by decide)).1 hb
 unfold nrX
 rw [if_neg (by have:=h.pos;omega),<- aE6 hz h a c,bU f0 n0 d0 rd,<- hy,hn]
 unfold rdE
 split
 . rename_i k
   rw [decide_eq_false (Nat.ne_of_lt k)]
 . rw [decide_eq_true rfl]
theorem aKt {d:ByteArray}{p:Int}(h:0<d.size):Alk (nrP p) (clE (hdE d p)+(hdK d:Int)):=by
 have k1:hdK d<=19:=by unfold hdK;omega
 have k0:0<hdK d:=by unfold hdK;omega
 unfold Alk nrP clE hdE
 split
 . omega
 . split
   . omega
   . omega
theorem aEc {d:ByteArray}{p:Int}{c:Bool}(h:VN d p c) (e:Int) :
 ∃ r P:Nat,0<P/\r<10 ^ (d.size - hdK d)/\(c=false -> hdK d<d.size -> 0<r) /\
  hdM d * pN e * frD d (e+(hdK d:Int))=hdM d * 10 ^ (d.size - hdK d) * P /\
  (hdM d+1) * pN e * frD d (e+(hdK d:Int))=(hdM d+1) * 10 ^ (d.size - hdK d) * P /\
  frN d (e+(hdK d:Int)) * pD e=(hdM d * 10 ^ (d.size - hdK d)+r) * P:=by
 have hk:hdK d<=d.size:=by unfold hdK;omega
 obtain ⟨j,hj⟩:∃ j,d.size=hdK d+j:=⟨d.size - hdK d,by omega⟩
 have sj:d.size - hdK d=j:=by omega
 have sp:=gK d (hdK d) j
 rw [<- hj] at sp
 refine ⟨dvA d (hdK d) j,10 ^ ((e - j).toNat+(-e).toNat),Nat.pow_pos (by decide),by rw [sj];exact dN h.dg _ _,?_,?_,?_,?_⟩
 . intro c0 lt
   obtain ⟨i,rfl⟩:∃ i,j=i+1:=⟨j - 1,by omega⟩
   rw [bH]
   have dg:=gZ h.dg (hdK d+i)
   have ne:dgt d (hdK d+i) ≠ 48:=by
    rcases h.last with l | l
    . rw [show hdK d+i=d.size - 1 from by omega,cO (by omega)]
      exact l
    . rw [c0] at l
      cases l
   omega
 . unfold frD pN
   rw [sj,show (d.size:Int) - (e+(hdK d:Int))=j - e from by omega,Nat.mul_assoc,Nat.mul_assoc,<- Nat.pow_add,<- Nat.pow_add]
   congr 2
   omega
 . unfold frD pN
   rw [sj,show (d.size:Int) - (e+(hdK d:Int))=j - e from by omega,Nat.mul_assoc,Nat.mul_assoc,<- Nat.pow_add,<- Nat.pow_add]
   congr 2
   omega
 . unfold frN pD
   rw [sj,show e+(hdK d:Int) - (d.size:Int)=e - j from by omega,sp,Nat.mul_assoc,<- Nat.pow_add]
   rfl
theorem aBF     {z : Int} {g n f T : Nat} {L : Int} (hz : Fz z g n f T L) {d : ByteArray} {p : Int} {c : Bool} (h : VN d p c) {x : Nat} (r : Rnd f T L (clE (hdE d p)) (hdM d) (hdR d c) x true) :
    nrX f T L d p c = (x, decide (x = n)) := by
  obtain ⟨f0, T2, hn, _, _⟩ := fA      hz
  refine aMj   hz h (aKt    h.pos) fun y hy => ?_
  generalize clE (hdE d p) = e at *
  obtain ⟨r0, P, P0, r1, r2, e1, e2, e3⟩ := aEc       h e
  cases hr : hdR d c with
  | false =>
    rw [hr] at r
    unfold hdR at hr
    rw [Bool.or_eq_false_iff, decide_eq_false_iff_not] at hr
    obtain ⟨c0, hk⟩ := hr
    subst c0
    have s : d.size - hdK d = 0 := by omega
    rw [s, Nat.pow_zero] at r1 e1 e3
    have r00 : r0 = 0 := by omega
    rw [r00, Nat.add_zero] at e3
    refine r.right0 (by omega) ((nR      (bO      _ _) (aP     e) ?_ y).1 hy)
    refine ⟨0, Int.le_refl _, Int.le_refl _, ?_⟩
    rw [aB     , aB     , e3, e1]
  | true =>
    rw [hr] at r
    obtain ⟨q1, q2⟩ := r.right1
    obtain ⟨u, hu⟩ := qU         f0 (by omega) (T := T) (L := L) (n := hdM d * pN e) (d := pD e) (e := 0) 1 (Nat.ne_of_gt (aP     e))
    obtain ⟨v, hv⟩ := qU         f0 (by omega) (T := T) (L := L) (n := (hdM d + 1) * pN e) (d := pD e) (e := 0) (-1) (Nat.ne_of_gt (aP     e))
    obtain rfl := q1 u hu
    obtain rfl := q2 v hv
    have hi : fLt (frN d (e + (hdK d : Int))) (frD d (e + (hdK d : Int))) 0 ((hdM d + 1) * pN e) (pD e) 0 := by
      refine ⟨0, Int.le_refl _, Int.le_refl _, ?_⟩
      rw [aB     , aB     , e3, e2]
      refine Nat.mul_lt_mul_of_pos_right ?_ P0
      rw [Nat.add_mul, Nat.one_mul]
      omega
    have lo : fLe (hdM d * pN e) (pD e) 0 (frN d (e + (hdK d : Int))) (frD d (e + (hdK d : Int))) 0 := by
      refine ⟨0, Int.le_refl _, Int.le_refl _, ?_⟩
      rw [aB     , aB     , e3, e1]
      exact Nat.mul_le_mul_right _ (by omega)
    refine NrT.between (bO      _ _) (aP     e) (aP     e) lo ?_ hi.le (.inr hi) hu hv hy
    cases c with
    | true => exact .inl (Int.le_refl _)
    | false =>
      right
      unfold hdR at hr
      rw [Bool.false_or, decide_eq_true_eq] at hr
      refine ⟨0, Int.le_refl _, Int.le_refl _, ?_⟩
      rw [aB     , aB     , e3, e1]
      exact Nat.mul_lt_mul_of_pos_right (by have := r2 rfl hr; omega) P0
end Go.Proofs.YtejgpbhionadbaaGreatDoor
namespace Go.Proofs.YtejgpbhionadbaaGreatDoor
open Go.RowKit
theorem aC9 {z:Int}{g n f T:Nat}{L:Int}(hz:Fz z g n f T L) {x:Nat}(_hx:x<18446744073709551616) (w:World):Cb 81 #[vU (x:Int),vI z] w (if x=n then .iface 63 (vI 4) else .nilIface):=by
 have I:=fun W=>nT hz false W
 have e:sgd g false (T * 2 ^ f)=n:=by rw [(fA hz).2.2.1];rfl
 rw [e] at I
 clear e hz
 by_cases q:x=n
 . subst q
   rw [if_pos rfl]
   have q1:((x:Int) == (x:Int))=true:=beq_self_eq_true _
   go_enter Tryz.func81,Tryz.ntmps81
   go_wp2_with fail
   refine (I _).mono ?_
   rintro o w1 ⟨rfl,b1⟩
   have B1:Hid (Bl w w1):=b1
   clear b1
   go_wp2
   go_ret
   exact ⟨rfl,B1.out⟩
 . rw [if_neg q]
   have q1:((x:Int) == (n:Int))=false:=beq_eq_false_iff_ne.mpr (by omega)
   clear q
   go_enter Tryz.func81,Tryz.ntmps81
   go_wp2_with fail
   refine (I _).mono ?_
   rintro o w1 ⟨rfl,b1⟩
   have B1:Hid (Bl w w1):=b1
   clear b1
   go_wp2
   go_ret
   exact ⟨rfl,B1.out⟩
end Go.Proofs.YtejgpbhionadbaaGreatDoor
