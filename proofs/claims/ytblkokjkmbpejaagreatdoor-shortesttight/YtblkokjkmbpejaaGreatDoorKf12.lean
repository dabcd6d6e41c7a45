/-
  Holds: IvN SoA.
-/
import Derived.Test.YtblkokjkmbpejaaGreatDoorRows
import Derived.Laws.Externs
import Derived.WalkKit
import Derived.WalkSpells
import Derived.WalkLawsBesides
import Derived.Lib.Mul64
import Derived.Stop.Asserts
import Derived.RowKitTokens
import Derived.Lib.Strings
import Derived.Lib.BufferWrite
import Derived.Deep.OwnRows
import Derived.Deep.RegionHeld3
import Derived.BigQuiet
import Derived.Lib.ConvBytes
import Derived.Laws.CopyOwn
import Derived.Lib.TrailingZeros
import Derived.Lib.ItoaNum
import Derived.Deep.LoopGhost
import Derived.Test.YtblkokjkmbpejaaGreatDoorKf10
import Derived.Test.YtblkokjkmbpejaaGreatDoorKf11
set_option maxRecDepth 100000
set_option maxHeartbeats 4000000
namespace Go.Proofs.YtblkokjkmbpejaaGreatDoor
open Go.RowKit
def Fs (f T:Nat) (L:Int):Prop:=(f=23/\T=255/\L = -149) \/ (f=52/\T=2047/\L = -1074)
def vlF (f:Nat) (L:Int) (m:Nat):Nat:=fv (mt f m) (xp f L m)
def hiF (f:Nat) (L:Int) (m:Nat):Nat:=fv (2 * mt f m+1) (xp f L m - 1)
def loF (f:Nat) (L:Int):Nat -> Nat
 | 0=>0
 | k+1=>hiF f L k
theorem dS {f T:Nat}{L:Int}(h:Fs f T L) (m:Nat):mt f m<2 ^ 53:=by
 have g:=(cQ f L m).1
 rcases h with ⟨rfl,_,_⟩ | ⟨rfl,_,_⟩
 . exact Nat.lt_of_lt_of_le g (by decide)
 . exact g
theorem bR {f T:Nat}{L:Int}(h:Fs f T L) {m:Nat}(hm:m<T * 2 ^ f):-1074<=xp f L m/\xp f L m<=971:=by
 have g:=(cQ f L m).2.1
 have q:m / 2 ^ f<T:=by rw [Nat.div_lt_iff_lt_mul (Nat.two_pow_pos f)];exact hm
 unfold xp at g ⊢
 generalize m / 2 ^ f=d at *
 rcases h with ⟨rfl,rfl,rfl⟩ | ⟨rfl,rfl,rfl⟩ <;> (split at g <;> (split <;> omega))
theorem jF (f:Nat) (L:Int) (m:Nat):xp f L m<=xp f L (m+1)/\xp f L (m+1)<=xp f L m+1:=by
 have q:m / 2 ^ f<=(m+1) / 2 ^ f:=Nat.div_le_div_right (Nat.le_succ m)
 have r:(m+1) / 2 ^ f<=m / 2 ^ f+1:=by
  rw [<- Nat.add_div_right m (Nat.two_pow_pos f)]
  exact Nat.div_le_div_right (by have:=Nat.two_pow_pos f;omega)
 unfold xp
 generalize m / 2 ^ f=a at *
 generalize (m+1) / 2 ^ f=b at *
 split <;> split <;> omega
theorem aCX {m M:Nat}{e E:Int}(h:Eqv m e M E) (h1:-(R0:Int)<=e) (h2:-(R0:Int)<=E):fv m e=fv M E:=by
 have q:=h.all (-(R0:Int)) h1 h2
 unfold ev at q
 unfold fv
 rw [show e+(R0:Int)=e - -(R0:Int) by omega,show E+(R0:Int)=E - -(R0:Int) by omega,q]
theorem wA {m:Nat}{e:Int}(h:-(R0:Int)<=e - 1):fv m e=fv (2 * m) (e - 1):=by
 have q:=aD7 (m:=m) (k:=1) h
 rw [show e - 1+((1:Nat):Int)=e by omega,Nat.pow_one,Nat.mul_comm] at q
 exact q
theorem iV {e:Int}(h:-1074<=e):-(R0:Int)<=e - 1:=by unfold R0;omega
def gF (f:Nat) (L:Int) (m:Nat):Nat:=fv 1 (xp f L m - 1)
theorem kF (f:Nat) (L:Int) (m:Nat):0<gF f L m:=vZ (by decide)
theorem nV (m:Nat) (e:Int):fv m e=m * fv 1 e:=by unfold fv;rw [Nat.one_mul,Nat.mul_assoc]
theorem fK {f m:Nat}(h0:m ≠ 0):0<mt f m:=by
 unfold mt
 have:=Nat.two_pow_pos f
 split <;> omega
theorem qU (f:Nat) (L:Int) (k:Nat):mt f (k+1) * 2 ^ (xp f L (k+1) - xp f L k).toNat+mt f k=2 * mt f k+1:=by
 have q:=(iT f L k).dn (jF f L k).1
 omega
theorem pE {f:Nat}(L:Int) {m:Nat}(h0:m ≠ 0):0<vlF f L m:=vZ (fK h0)
theorem aA3 {f T:Nat}{L:Int}(h:Fs f T L) {m:Nat}(hm:m<T * 2 ^ f):vlF f L m=2 * mt f m * gF f L m:=by
 unfold vlF gF
 rw [wA (iV (bR h hm).1),nV]
theorem nY {f T:Nat}{L:Int}(h:Fs f T L) {m:Nat}(hm:m<T * 2 ^ f):hiF f L m=vlF f L m+gF f L m:=by
 rw [aA3 h hm]
 unfold hiF gF
 rw [nV,Nat.add_mul,Nat.one_mul]
theorem aC7 {f T:Nat}{L:Int}(h:Fs f T L) {m:Nat}(hm:m<T * 2 ^ f) (hm1:m+1<T * 2 ^ f):vlF f L (m+1)=vlF f L m+2 * gF f L m:=by
 have q:=aCX (iT f L m) (by have:=iV (bR h hm).1;omega) (by have:=iV (bR h hm1).1;omega)
 unfold vlF
 rw [<- q,aCW,wA (m:=1) (iV (bR h hm).1)]
 unfold gF
 rw [show 2 * 1=2 from rfl,nV 2]
theorem zW {f T:Nat}{L:Int}(h:Fs f T L) {m:Nat}(hm1:m+1<T * 2 ^ f):loF f L (m+1)+gF f L m=vlF f L (m+1):=by
 have hm:m<T * 2 ^ f:=by omega
 show hiF f L m+_=_
 rw [nY h hm,aC7 h hm hm1]
 omega
theorem aBe {f T:Nat}{L:Int}(h:Fs f T L) {m:Nat}(hm:m<T * 2 ^ f) (h0:m ≠ 0):loF f L m<vlF f L m:=by
 obtain ⟨k,rfl⟩:∃ k,m=k+1:=⟨m - 1,by omega⟩
 have:=zW h hm
 have:=kF f L k
 omega
theorem lG {f T:Nat}{L:Int}(h:Fs f T L) {m:Nat}(hm:m<T * 2 ^ f):vlF f L m<hiF f L m:=by
 have:=nY h hm
 have:=kF f L m
 omega
theorem sC (f:Nat) (L:Int):vlF f L 0=0:=by
 unfold vlF
 rw [show mt f 0=0 by unfold mt;rw [Nat.zero_div,if_pos rfl],iR]
theorem nH {f T:Nat}{L:Int}(h:Fs f T L) {m N a:Nat}(hN:2 ^ (f+1)<=10 ^ (N - 1)) (N0:1<=N) (h0:m ≠ 0) (hm:m<T * 2 ^ f) (ha:10 ^ (a - 1)<=vlF f L m) :
 (loF f L m<vlF f L m / 10 ^ (a - N) * 10 ^ (a - N)) \/ ((vlF f L m+(10 ^ (a - N) - 1)) / 10 ^ (a - N) * 10 ^ (a - N)<hiF f L m):=by
 obtain ⟨k,rfl⟩:∃ k,m=k+1:=⟨m - 1,by omega⟩
 have x1:=aBe h hm h0
 have x2:=lG h hm
 have e1:=nY h hm
 have e2:=zW h hm
 have e3:=aA3 h hm
 have g0:=kF f L (k+1)
 have xm:=jF f L k
 have gd:=cQ f L (k+1)
 have eq:=qU f L k
 have gk:gF f L k=gF f L (k+1) \/ (2 ^ f<=mt f (k+1)/\mt f (k+1)<=2 ^ f):=by
  by_cases c:xp f L (k+1)=xp f L k
  . left;unfold gF;rw [c]
  . right
    have c1:xp f L (k+1)=xp f L k+1:=by omega
    have gk:=cQ f L k
    rw [c1,show (xp f L k+1 - xp f L k).toNat=1 by omega,Nat.pow_one] at eq
    rcases gd.2.2 with q | q
    . refine ⟨q,?_⟩
      have:=gk.1
      rw [Nat.pow_succ] at this
      omega
    . have:=gk.2.1
      omega
 generalize vlF f L (k+1)=x at *
 generalize loF f L (k+1)=lo at *
 generalize hiF f L (k+1)=hi at *
 generalize gF f L (k+1)=g at *
 generalize gF f L k=g' at *
 generalize mt f (k+1)=M at *
 generalize hS:10 ^ (a - N)=S at *
 have S0:0<S:=by rw [<- hS];exact Nat.pow_pos (by decide)
 have dm:=Nat.div_add_mod x S
 have md:=Nat.mod_lt x S0
 rcases Nat.eq_zero_or_pos (x % S) with z | z
 . left
   rw [Nat.mul_comm] at dm
   omega
 . have up:(x+(S - 1)) / S=x / S+1:=by
    refine Nat.div_eq_of_lt_le ?_ ?_
    . rw [Nat.add_mul,Nat.one_mul,Nat.mul_comm];omega
    . rw [Nat.add_mul,Nat.add_mul,Nat.one_mul,Nat.mul_comm];omega
   rw [up,Nat.add_mul,Nat.one_mul,Nat.mul_comm (x / S) S]
   have S1:S ≠ 1:=by intro c;rw [c,Nat.mod_one] at z;omega
   have aN:a - N+(N - 1)=a - 1:=by
    have:a - N ≠ 0:=by intro c;rw [c] at hS;exact S1 hS.symm
    omega
   have big:S * 2 ^ (f+1)<=x:=by
    refine Nat.le_trans (Nat.mul_le_mul_left S hN) (Nat.le_trans ?_ ha)
    rw [<- hS,<- Nat.pow_add,aN]
    exact Nat.le_refl _
   have step:∀ {M':Nat},M<=M' -> S * 2 ^ (f+1)<=2 * M' * g:=fun hM=>by
    refine Nat.le_trans big ?_
    rw [e3]
    exact Nat.mul_le_mul_right g (Nat.mul_le_mul_left 2 hM)
   rcases gk with q | q
   . have s:=gd.1
     have sg:S<2 * g:=by
      apply Nat.lt_of_not_le
      intro c
      have a1:2 * M * g<2 ^ (f+1) * S:=by
       rw [show 2 * M * g=M * (2 * g) by rw [Nat.mul_comm 2 M,Nat.mul_assoc]]
       exact Nat.lt_of_le_of_lt (Nat.mul_le_mul_left M c) (Nat.mul_lt_mul_of_pos_right s S0)
      have a2:=step (Nat.le_refl M)
      rw [Nat.mul_comm (2 ^ (f+1)) S] at a1
      omega
     omega
   . right
     have sg:S<=g:=by
      have a2:=step q.2
      rw [Nat.mul_comm 2,<- Nat.pow_succ,Nat.mul_comm] at a2
      exact Nat.le_of_mul_le_mul_left a2 (Nat.two_pow_pos (f+1))
     omega
theorem tB (m:Nat) (e:Int):fv m e=ev (-(R0:Int)) m e * 5 ^ R0:=by
 unfold fv ev
 rw [show e - -(R0:Int)=e+(R0:Int) by omega]
theorem mN (n:Nat):n * 10 ^ R0=ev (-(R0:Int)) n 0 * 5 ^ R0:=by
 have q:=nW (m:=n) (k:=0)
 rw [Nat.pow_zero,Nat.mul_one,tB] at q
 exact q.symm
theorem pD {n d X m:Nat}{x:Int}(d0:0<d) (hx:-(R0:Int)<=x) (h:n * 10 ^ R0=X * d):vL n d 0 m x ↔ X<fv m x:=by
 have p:0<5 ^ R0:=Nat.pow_pos (by decide)
 rw [mN] at h
 rw [tB]
 have key:ev (-(R0:Int)) n 0<d * ev (-(R0:Int)) m x ↔ X<ev (-(R0:Int)) m x * 5 ^ R0:=by
  rw [<- Nat.mul_lt_mul_right p,h,Nat.mul_comm d,Nat.mul_right_comm,Nat.mul_lt_mul_right d0]
 rw [<- key]
 constructor
 . intro k;exact k.at _ (by omega) hx
 . intro k;exact ⟨_,by omega,hx,k⟩
theorem pC {n d X m:Nat}{x:Int}(d0:0<d) (hx:-(R0:Int)<=x) (h:n * 10 ^ R0=X * d):vE n d 0 m x ↔ X=fv m x:=by
 have p:0<5 ^ R0:=Nat.pow_pos (by decide)
 rw [mN] at h
 rw [tB]
 have key:ev (-(R0:Int)) n 0=d * ev (-(R0:Int)) m x ↔ X=ev (-(R0:Int)) m x * 5 ^ R0:=by
  rw [<- Nat.mul_right_cancel_iff p,h,Nat.mul_comm d,Nat.mul_right_comm,Nat.mul_right_cancel_iff d0]
 rw [<- key]
 constructor
 . intro k;exact k.at _ (by omega) hx
 . intro k;exact ⟨_,by omega,hx,k⟩
def InI (f:Nat) (L:Int) (m X:Nat):Prop:=(loF f L m<X/\X<hiF f L m) \/ (m % 2=0/\loF f L m<=X/\X<=hiF f L m)
theorem aEf   {f T : Nat} {L : Int} (h : Fs f T L) {m n d X : Nat} (hm : m < T * 2 ^ f) (d0 : 0 < d) (q : n * 10 ^ R0 = X * d) : RD f L n d 0 false m ↔ InI f L m X := by
  have r := iV    (bR    h hm).1
  have u1 := pD       (m := hM f m) (x := hX f L m) d0 r q
  have u2 := pC       (m := hM f m) (x := hX f L m) d0 r q
  have e1 : fv (hM f m) (hX f L m) = hiF f L m := rfl
  rw [e1] at u1 u2
  unfold RD Up InI
  rw [u1, u2]
  cases m with
  | zero =>
    show ((X < hiF f L 0 ∨ _) ∧ _) ↔ ((0 < X ∧ _) ∨ (_ ∧ 0 ≤ X ∧ _))
    constructor
    · rintro ⟨a | ⟨a, _, _⟩, _⟩
      · exact Or.inr ⟨rfl, Nat.zero_le _, by omega⟩
      · exact Or.inr ⟨rfl, Nat.zero_le _, by omega⟩
    · rintro (⟨_, a⟩ | ⟨_, _, a⟩)
      · exact ⟨Or.inl a, Or.inl rfl⟩
      · rcases Nat.lt_or_ge X (hiF f L 0) with c | c
        · exact ⟨Or.inl c, Or.inl rfl⟩
        · exact ⟨Or.inr ⟨by omega, rfl, rfl⟩, Or.inl rfl⟩
  | succ k =>
    have r2 := iV    (bR    h (m := k) (by omega)).1
    have v1 := pD       (m := hM f k) (x := hX f L k) d0 r2 q
    have v2 := pC       (m := hM f k) (x := hX f L k) d0 r2 q
    have e2 : fv (hM f k) (hX f L k) = loF f L (k + 1) := rfl
    rw [e2] at v1 v2
    rw [Nat.add_sub_cancel, v1, v2]
    generalize loF f L (k + 1) = lo at *
    generalize hiF f L (k + 1) = hi at *
    constructor
    · rintro ⟨a, b | b⟩
      · omega
      · have b1 : lo ≤ X := by
          apply Nat.le_of_not_lt
          intro c
          exact b (Or.inl c)
        rcases Nat.eq_or_lt_of_le b1 with c | c
        · have ev : ¬ k % 2 = 0 := fun z => b (Or.inr ⟨c.symm, z, rfl⟩)
          rcases a with a | ⟨a, e, _⟩
          · exact Or.inr ⟨by omega, b1, by omega⟩
          · exact Or.inr ⟨e, b1, by omega⟩
        · rcases a with a | ⟨a, e, _⟩
          · exact Or.inl ⟨c, a⟩
          · exact Or.inr ⟨e, b1, by omega⟩
    · rintro (⟨a, b⟩ | ⟨e, a, b⟩)
      · exact ⟨Or.inl b, Or.inr fun g => by rcases g with g | ⟨g, _, _⟩ <;> omega⟩
      · refine ⟨?_, Or.inr fun g => by rcases g with g | ⟨g, z, _⟩ <;> omega⟩
        rcases Nat.eq_or_lt_of_le b with c | c
        · exact Or.inr ⟨c, e, rfl⟩
        · exact Or.inl c
theorem aDm {f T:Nat}{L:Int}(h:Fs f T L) {m n d X:Nat}(hm:m<T * 2 ^ f) (n0:n ≠ 0) (d0:0<d) (q:n * 10 ^ R0=X * d) (i:InI f L m X):rdA f T L n d 0 false=(m,false):=by
 have hf:0<f:=by rcases h with ⟨rfl,_⟩ | ⟨rfl,_⟩ <;> omega
 rw [aDn hf n0 (by omega) ((aEf h hm d0 q).2 i),if_pos hm]
end Go.Proofs.YtblkokjkmbpejaaGreatDoor
