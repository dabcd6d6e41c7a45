/-
  Holds: SoWc.
-/
import Derived.Test.YtblkokjkmbpejaaGreatDoorRows
import Derived.Laws.Externs
import Derived.WalkKit
import Derived.WalkSpells
import Derived.WalkLawsBesides
import Derived.Lib.Mul64
import Derived.Stop.Asserts
import Derived.RowKitTokens
import Derived.Lib.Strings
import Derived.Lib.BufferWrite
import Derived.Deep.OwnRows
import Derived.Deep.RegionHeld3
import Derived.BigQuiet
import Derived.Lib.ConvBytes
import Derived.Laws.CopyOwn
import Derived.Lib.TrailingZeros
import Derived.Lib.ItoaNum
import Derived.Deep.LoopGhost
import Derived.Deep.AppendLies
import Derived.Deep.DeepCutAuto
import Derived.Test.YtblkokjkmbpejaaGreatDoorShelf
import Derived.Test.YtblkokjkmbpejaaGreatDoorKf32
import Derived.Test.YtblkokjkmbpejaaGreatDoorKf34
import Derived.Test.YtblkokjkmbpejaaGreatDoorKf36
set_option maxRecDepth 100000
set_option maxHeartbeats 4000000
namespace Go.Proofs.YtblkokjkmbpejaaGreatDoor
open Go.RowKit
theorem lW (F:Nat -> Nat) (n:Nat) (h:∀ i,i<n -> 48<=F i/\F i<=57):∃ v:ByteArray,v.size=n/\DG v/\(∀ i,i<n -> dgt v i=F i)/\∀ t:ByteArray,t.size=n -> (∀ i,i<n -> dgt t i=F i) -> t=v:=by
 have hU:=dK F n (fun i hi=>by have:=h i hi;omega)
 refine ⟨_,hU.1,fun i hi=>?_,hU.2,fun t a b=>gT (by rw [a,hU.1]) (fun i hi=>?_)⟩
 . rw [<- aA hi,hU.2 i (by rw [<- hU.1];exact hi)]
   exact h i (by rw [<- hU.1];exact hi)
 . rw [a] at hi
   rw [b i hi,hU.2 i hi]
theorem Dx.dg {s:ByteArray}{p:Int}{X:Nat}(h:Dx s p X):DG s:=by
 rcases h.vd with ⟨z,_⟩ | g
 . intro i hi;omega
 . exact g.dg
theorem Dx.len {s:ByteArray}{p:Int}{X:Nat}(h:Dx s p X):s.size<=800:=by
 rcases h.vd with ⟨z,_⟩ | g
 . omega
 . exact g.len
theorem aB0 {s t:ByteArray}{p q:Int}{X Y:Nat}(a:Dx s p X) (b:Dx t q Y) (hs:s.size<=20) (ht:t.size<=20) (hp:-500<=p) (hp2:p<=500) (hq:-500<=q) (hq2:q<=500) (near:p<=q+1) (near2:q<=p+1) (h0:0<X+Y) :
 ∃ (s2:ByteArray) (p2:Int),Dx s2 p2 (X+Y)/\∀ W,Cb 26 #[dcV s p false,dcV t q false] W (dcV s2 p2 false):=by
 have la:=a.lo
 have lb:=b.lo
 obtain ⟨top,htop⟩:∃ top:Int,top=if p<=q then q else p:=⟨_,rfl⟩
 obtain ⟨en,hen⟩:∃ en:Int,en=if p - (s.size:Int)<=q - (t.size:Int) then p - (s.size:Int) else q - (t.size:Int):=⟨_,rfl⟩
 have b1:p<=top/\q<=top/\top<=500 /\ -500<=top/\top<=p+1/\top<=q+1:=by split at htop <;> omega
 have b2:en<=p - (s.size:Int)/\en<=q - (t.size:Int) /\ -(R0:Int)<=en/\top<=en+22:=by split at hen <;> omega
 obtain ⟨k0,h2⟩:∃ k0:Nat,top - p=(k0:Int):=⟨(top - p).toNat,by omega⟩
 obtain ⟨k1,h3⟩:∃ k1:Nat,top - q=(k1:Int):=⟨(top - q).toNat,by omega⟩
 obtain ⟨n,h4⟩:∃ n:Nat,top - en=(n:Int):=⟨(top - en).toNat,by omega⟩
 obtain ⟨v,v1,v2,v3,v4⟩:=lW (sD s t k0 k1 n) (n+1) (fun i _=>by
  unfold sD
  have:=sM a.dg b.dg k0 k1 n n
  split <;> omega)
 have e:=aDE a b h2.symm h3.symm (n:=n) (by omega) (by omega) (by omega) v3
 have ne:pv v v.size ≠ 0:=by
  rw [v1]
  intro z
  rw [z,Nat.zero_mul] at e
  omega
 obtain ⟨s2,p2,D,M⟩:=kX v2 (by omega) ne (p:=top+1) (by omega) (by omega)
 rw [v1,show (top+1+(R0:Int) - ((n+1:Nat):Int)).toNat=(top+(R0:Int) - (n:Int)).toNat by congr 1;omega,e] at D
 refine ⟨s2,p2,D,fun W=>aBZ a.dg b.dg a.len b.len (by omega) (by omega) (by omega) (by omega) h2 h3 (by omega) (by omega) (n:=n) (by omega) htop (by rw [<- hen];omega) (fun t c d=>?_) W⟩
 rw [v4 t c d]
 exact M
theorem aC2 {u v:ByteArray}{n k:Nat}(kn:k<=n) (h9:∀ i,k<=i -> i<n -> dgt u i=57) (hd:DG u) (hv:∀ i,i<n+1 -> dgt v i=dZ u k i):pv v (n+1)=pv u n+1:=by
 have a:pv v k=pv (⟨#[48]⟩ ++ u:ByteArray) k:=cW k fun i hi=>by
  rw [hv i (by omega),(bS (t:=⟨#[48]⟩ ++ u) (s:=u) rfl).2 i]
  unfold dZ
  rw [if_pos hi]
 have b:pv (⟨#[48]⟩ ++ u:ByteArray) (k+1)=pv u k:=by
  have q:=eT (t:=⟨#[48]⟩ ++ u) (u:=u) (z:=1) (fun i hi=>by
   rw [(bS (t:=⟨#[48]⟩ ++ u) (s:=u) rfl).2 i,show i=0 by omega]
   rfl) k (fun i _=>by
   rw [(bS (t:=⟨#[48]⟩ ++ u) (s:=u) rfl).2 (1+i)]
   unfold aP
   rw [if_neg (by omega),Nat.add_sub_cancel_left])
  rw [Nat.add_comm 1 k] at q
  exact q
 have c:pv v (k+1)=pv u k+1:=by
  have z:48<=aP u k:=by
   unfold aP
   split
   . omega
   . exact (aF hd _).1
  have b':10 * pv (⟨#[48]⟩ ++ u:ByteArray) k+(aP u k - 48)=pv u k:=by
   rw [<- b]
   show _=10 * pv (⟨#[48]⟩ ++ u:ByteArray) k+(dgt (⟨#[48]⟩ ++ u:ByteArray) k - 48)
   rw [(bS (t:=⟨#[48]⟩ ++ u) (s:=u) rfl).2 k]
  show 10 * pv v k+(dgt v k - 48)=_
  rw [hv k (by omega),a]
  unfold dZ
  rw [if_neg (by omega),if_pos rfl]
  omega
 have d:=cT (s:=v) (m:=k+1) (n - k) (fun i x y=>by
  rw [hv i (by omega)]
  unfold dZ
  rw [if_neg (by omega),if_neg (by omega)])
 have e:=iI (s:=u) (m:=k) (n - k) (fun i x y=>h9 i x (by omega))
 rw [show k+(n - k)=n by omega] at e
 rw [show n+1=k+1+(n - k) by omega,d,c,e]
theorem aBI {u:ByteArray}(hd:DG u) {k:Nat}(hk:0<k -> dgt u (k - 1) ≠ 57) (i:Nat):48<=dZ u k i/\dZ u k i<=57:=by
 have dz:∀ i,48<=aP u i/\aP u i<=57:=fun i=>by
  unfold aP
  split
  . omega
  . exact aF hd _
 have dk:aP u k+1<=57:=by
  have a:=dz k
  unfold aP at a ⊢
  split
  . omega
  . rename_i c
    rw [if_neg c] at a
    have:=hk (by omega)
    omega
 have a:=dz i
 have b:=dz k
 unfold dZ
 split
 . exact a
 . split <;> omega
theorem tN {u:ByteArray}{o:Int}{Z A:Nat}(D:Dx u o Z) (u0:0<u.size) (hn:u.size<=20) (hA:o+(R0:Int)=(A:Int)) (o1:o<=1000) :
 ∃ (s2:ByteArray) (p2:Int),Dx s2 p2 (Z+10 ^ (A - u.size))/\∀ W,Cb 24 #[dcV u o false,vI (u.size:Int),.bool true] W (dcV s2 p2 false):=by
 have vn:=D.vn u0
 have lo:=D.lo
 have vl:=D.vl
 obtain ⟨k1,k2,k3⟩:=kH u u.size
 obtain ⟨v,v1,v2,v3,v4⟩:=lW (dZ u (kN u u.size)) (u.size+1) (fun i _=>aBI vn.dg k3 i)
 have e:=aC2 k1 k2 vn.dg v3
 obtain ⟨s2,p2,E,M⟩:=kX v2 (by omega) (by rw [v1,e];omega) (p:=o+1) (by omega) (by omega)
 rw [v1,e,Nat.add_mul,Nat.one_mul,show (o+1+(R0:Int) - ((u.size+1:Nat):Int)).toNat=(o+(R0:Int) - (u.size:Int)).toNat by congr 1;omega,vl,show (o+(R0:Int) - (u.size:Int)).toNat=A - u.size by omega] at E
 exact ⟨s2,p2,E,fun W=>aBW rfl u0 (by omega) vn.dg vn.lo vn.hi k1 k2 k3 (fun t c d=>by rw [v4 t c d];exact M) W⟩
theorem tM {u:ByteArray}{o:Int}{Z A:Nat}(D:Dx u o Z) (u0:0<u.size) (hn:u.size<=20) (hA:o+(R0:Int)=(A:Int)) (o1:o<=1000) (hb:u ≠ ⟨#[49]⟩) :
 ∃ (s2:ByteArray) (p2:Int),Dx s2 p2 (Z - 10 ^ (A - u.size))/\∀ W,Cb 24 #[dcV u o false,vI (u.size:Int),.bool false] W (dcV s2 p2 false):=by
 have vn:=D.vn u0
 have nf:=dF vn
 have lo:=D.lo
 have vl:=D.vl
 have hl:=nf.last
 have dl:=aF vn.dg (u.size - 1)
 obtain ⟨m,hm⟩:∃ m,u.size=m+1:=⟨u.size - 1,by omega⟩
 obtain ⟨v,v1,v2,v3,v4⟩:=lW (fun i=>if i<u.size then aP u i else dgt u (u.size - 1) - 1) (u.size+1) (fun i _=>by
  split
  . unfold aP
    split
    . omega
    . exact aF vn.dg _
  . omega)
 have e:pv v (u.size+1)+1=pv u u.size:=by
  have q:=eT (t:=v) (u:=u) (z:=1) (fun i hi=>by
   rw [v3 i (by omega),if_pos (by omega),show i=0 by omega]
   rfl) m (fun i _=>by
   rw [v3 (1+i) (by omega),if_pos (by omega)]
   unfold aP
   rw [if_neg (by omega),Nat.add_sub_cancel_left])
  rw [Nat.add_comm 1 m] at q
  rw [hm]
  show 10 * pv v (m+1)+(dgt v (m+1) - 48)+1=10 * pv u m+(dgt u m - 48)
  rw [q,v3 (m+1) (by omega),if_neg (by omega),show u.size - 1=m by omega]
  rw [show u.size - 1=m by omega] at hl dl
  omega
 have two:2<=pv u u.size:=by
  rcases Nat.eq_zero_or_pos m with z | z
  . subst z
    rw [hm]
    show 2<=10 * 0+(dgt u 0 - 48)
    rw [show u.size - 1=0 by omega] at hl dl
    apply Nat.le_of_not_lt
    intro c
    apply hb
    have d0:dgt u 0=49:=by omega
    refine gT (by rw [hm];rfl) (fun i hi=>?_)
    rw [show i=0 by omega,d0]
    decide
  . have:=eU vn.dg nf.first m
    rw [<- hm] at this
    have t:10 ^ 1<=10 ^ m:=Nat.pow_le_pow_right (by decide) z
    omega
 obtain ⟨s2,p2,E,M⟩:=kX v2 (by omega) (by rw [v1];omega) (p:=o+1) (by omega) (by omega)
 have e2:pv v (u.size+1) * 10 ^ (A - u.size)=Z - 10 ^ (A - u.size):=by
  rw [<- vl,<- e,show (o+(R0:Int) - (u.size:Int)).toNat=A - u.size by omega,Nat.add_mul,Nat.one_mul,Nat.add_sub_cancel]
 rw [v1,show (o+1+(R0:Int) - ((u.size+1:Nat):Int)).toNat=A - u.size by omega,e2] at E
 exact ⟨s2,p2,E,fun W=>aBV rfl u0 (by omega) vn.dg vn.lo vn.hi (fun q=>hb q.2) hl (fun t c d f=>by
  rw [v4 t c (fun i hi=>by
   by_cases z:i<u.size
   . rw [if_pos z];exact d i z
   . rw [if_neg z,show i=u.size by omega];exact f)]
  exact M) W⟩
theorem aBv {o:Int}{A:Nat}(hA:o+(R0:Int)=(A:Int)) (h2:2<=A) (o1:o<=1000):Dx ⟨#[57]⟩ (o - 1) (9 * 10 ^ (A - 2)):=by
 have r:R0=1100:=rfl
 have nf:NF ⟨#[57]⟩:=⟨by decide,fun i hi=>by
  have hi':i<1:=hi
  obtain rfl:i=0:=by omega
  show 48<=(57:UInt8).toNat/\(57:UInt8).toNat<=57
  decide,by decide,by decide⟩
 refine ⟨Or.inr (eB nf (by decide) (by omega) (by omega)),by show ((1:Nat):Int)<=o - 1+(R0:Int);omega,?_⟩
 show pv ⟨#[57]⟩ 1 * 10 ^ (o - 1+(R0:Int) - ((1:Nat):Int)).toNat=_
 rw [show (o - 1+(R0:Int) - ((1:Nat):Int)).toNat=A - 2 by omega]
 rfl
theorem vN {u:ByteArray}{o:Int}{X:Nat}(D:Dx u o X) (u0:0<u.size) (hn:u.size<=799) (o1:o<=1000) :
 ∃ (s2:ByteArray) (p2:Int),Dx s2 p2 (2 * X)/\∀ W,Cb 27 #[dcV u o false] W (.tuple #[dcV s2 p2 false,vI 0]):=by
 have vn:=D.vn u0
 have nf:=dF vn
 have lo:=D.lo
 have vl:=D.vl
 obtain ⟨z,_⟩:=fU vn.dg (f:=2) (by omega)
 have e:=yI vn.dg (f:=2) (by omega)
 have low:0<pv u u.size:=by
  obtain ⟨m,hm⟩:∃ m,u.size=m+1:=⟨u.size - 1,by omega⟩
  have:=eU vn.dg nf.first m
  rw [<- hm] at this
  have:0<10 ^ m:=Nat.pow_pos (by decide)
  omega
 obtain ⟨s2,p2,E,M⟩:=kX (aDJ vn.dg (f:=2) (by omega)) (by omega) (by rw [z,e];omega) (p:=o+1) (by omega) (by omega)
 rw [z,e,show (o+1+(R0:Int) - ((u.size+1:Nat):Int)).toNat=(o+(R0:Int) - (u.size:Int)).toNat by congr 1;omega,Nat.mul_assoc,vl] at E
 exact ⟨s2,p2,E,fun W=>tW (Or.inr vn) M W⟩
end Go.Proofs.YtblkokjkmbpejaaGreatDoor
