/-
  Holds: URdM UBtK URdF URdA URdV URnM UBtS UPrM UPwM UPrO UPrN UPrP.
-/
import Derived.Laws.BitsAllLaws
import Derived.Test.YtejgpbhionadbaaGreatDoorXl2
set_option maxRecDepth 100000
set_option maxHeartbeats 4000000
namespace Go.Proofs.YtejgpbhionadbaaGreatDoor
def vL (n d:Nat) (e:Int) (m:Nat) (x:Int):Prop:=∃ K,K<=e/\K<=x/\ev K n e<d * ev K m x
def vE (n d:Nat) (e:Int) (m:Nat) (x:Int):Prop:=∃ K,K<=e/\K<=x/\ev K n e=d * ev K m x
theorem kG (a b c:Nat):a * (b * c)=a * b * c:=(Nat.mul_assoc a b c).symm
theorem vL.at {n d m:Nat}{e x:Int}(h:vL n d e m x) (K:Int) (h1:K<=e) (h2:K<=x):ev K n e<d * ev K m x:=by
 obtain ⟨K0,a,b,q⟩:=h
 rcases Int.le_total K K0 with c | c
 . rw [aK n c a,aK m c b,kG]
   exact Nat.mul_lt_mul_of_pos_right q (Nat.two_pow_pos _)
 . rw [aK n c h1,aK m c h2,kG] at q
   exact Nat.lt_of_mul_lt_mul_right q
theorem vE.at {n d m:Nat}{e x:Int}(h:vE n d e m x) (K:Int) (h1:K<=e) (h2:K<=x):ev K n e=d * ev K m x:=by
 obtain ⟨K0,a,b,q⟩:=h
 rcases Int.le_total K K0 with c | c
 . rw [aK n c a,aK m c b,kG,q]
 . rw [aK n c h1,aK m c h2,kG] at q
   exact Nat.eq_of_mul_eq_mul_right (Nat.two_pow_pos _) q
theorem vL.not_vE {n d m:Nat}{e x:Int}(h:vL n d e m x):¬ vE n d e m x:=fun k=>by
 have a:=h.at (min e x) (by omega) (by omega)
 have b:=k.at (min e x) (by omega) (by omega)
 omega
def lE (m:Nat) (x:Int) (m':Nat) (x':Int):Prop:=∃ K,K<=x/\K<=x'/\ev K m x<=ev K m' x'
def lT (m:Nat) (x:Int) (m':Nat) (x':Int):Prop:=∃ K,K<=x/\K<=x'/\ev K m x<ev K m' x'
theorem lE.at {m m':Nat}{x x':Int}(h:lE m x m' x') (K:Int) (h1:K<=x) (h2:K<=x'):ev K m x<=ev K m' x':=by
 obtain ⟨K0,a,b,q⟩:=h
 rcases Int.le_total K K0 with c | c
 . rw [aK m c a,aK m' c b]
   exact Nat.mul_le_mul_right _ q
 . rw [aK m c h1,aK m' c h2] at q
   exact Nat.le_of_mul_le_mul_right q (Nat.two_pow_pos _)
theorem lT.at {m m':Nat}{x x':Int}(h:lT m x m' x') (K:Int) (h1:K<=x) (h2:K<=x'):ev K m x<ev K m' x':=by
 obtain ⟨K0,a,b,q⟩:=h
 rcases Int.le_total K K0 with c | c
 . rw [aK m c a,aK m' c b]
   exact Nat.mul_lt_mul_of_pos_right q (Nat.two_pow_pos _)
 . rw [aK m c h1,aK m' c h2] at q
   exact Nat.lt_of_mul_lt_mul_right q
theorem lT.le {m m':Nat}{x x':Int}(h:lT m x m' x'):lE m x m' x':=by
 obtain ⟨K,a,b,q⟩:=h
 exact ⟨K,a,b,Nat.le_of_lt q⟩
theorem lT.trans {m m' m'':Nat}{x x' x'':Int}(h:lT m x m' x') (k:lE m' x' m'' x''):lT m x m'' x'':=by
 refine ⟨min x (min x' x''),by omega,by omega,?_⟩
 exact Nat.lt_of_lt_of_le (h.at _ (by omega) (by omega)) (k.at _ (by omega) (by omega))
theorem vL.up {n d m m':Nat}{e x x':Int}(h:vL n d e m x) (k:lE m x m' x'):vL n d e m' x':=by
 refine ⟨min e (min x x'),by omega,by omega,?_⟩
 exact Nat.lt_of_lt_of_le (h.at _ (by omega) (by omega)) (Nat.mul_le_mul_left d (k.at _ (by omega) (by omega)))
theorem vE.up {n d m m':Nat}{e x x':Int}(h:vE n d e m x) (d0:0<d) (k:lT m x m' x'):vL n d e m' x':=by
 refine ⟨min e (min x x'),by omega,by omega,?_⟩
 rw [h.at _ (by omega) (by omega)]
 exact Nat.mul_lt_mul_of_pos_left (k.at _ (by omega) (by omega)) d0
theorem sN (f:Nat) (L:Int) (b:Nat):Eqv (mt f b+1) (xp f L b) (mt f (b+1)) (xp f L (b+1)):=by
 have g:=kN f L b
 have g':=kN f L (b+1)
 have p:=Nat.two_pow_pos f
 have d1:=Nat.div_add_mod b (2 ^ f)
 have d2:=Nat.div_add_mod (b+1) (2 ^ f)
 have m1:=Nat.mod_lt b p
 have m2:=Nat.mod_lt (b+1) p
 by_cases c:b % 2 ^ f+1<2 ^ f
 . have e1:(b+1) / 2 ^ f=b / 2 ^ f:=by
    rw [<- d1,Nat.add_assoc,Nat.mul_add_div p,Nat.div_eq_of_lt c,Nat.mul_add_div p,Nat.div_eq_of_lt m1]
   have e2:(b+1) % 2 ^ f=b % 2 ^ f+1:=by
    rw [<- d1,Nat.add_assoc,Nat.mul_add_mod,Nat.mod_eq_of_lt c,Nat.mul_add_mod,Nat.mod_mod]
   have e3:mt f (b+1)=mt f b+1:=by
    unfold mt
    rw [e1,e2]
    split
    . rfl
    . omega
   have e4:xp f L (b+1)=xp f L b:=by
    unfold xp
    rw [e1]
   rw [e3,e4]
   exact Eqv.rfl' _ _
 . have c':b % 2 ^ f+1=2 ^ f:=Nat.le_antisymm m1 (Nat.not_lt.1 c)
   have e1:(b+1) / 2 ^ f=b / 2 ^ f+1:=by
    rw [<- d1,Nat.add_assoc,c',<- Nat.mul_succ,Nat.mul_div_cancel_left _ p,Nat.mul_add_div p,Nat.div_eq_of_lt m1]
   have e2:(b+1) % 2 ^ f=0:=by
    rw [<- d1,Nat.add_assoc,c',<- Nat.mul_succ,Nat.mul_mod_right]
   have e3:mt f (b+1)=2 ^ f:=by
    unfold mt
    rw [e1,e2,if_neg (Nat.succ_ne_zero _),Nat.zero_add]
   by_cases z:b / 2 ^ f=0
   . have e4:mt f b+1=2 ^ f:=by
      unfold mt
      rw [if_pos z]
      rw [z,Nat.mul_zero,Nat.zero_add] at d1
      omega
     have e5:xp f L b=xp f L (b+1):=by
      unfold xp
      rw [e1,if_pos z,if_neg (Nat.succ_ne_zero _),z]
      omega
     rw [e3,e4,e5]
     exact Eqv.rfl' _ _
   . have e4:mt f b+1=2 ^ f * 2:=by
      unfold mt
      rw [if_neg z,Nat.add_right_comm,c',Nat.mul_two]
     have e5:xp f L (b+1)=xp f L b+1:=by
      unfold xp
      rw [e1,if_neg z,if_neg (Nat.succ_ne_zero _)]
      generalize b / 2 ^ f=q
      omega
     rw [e3,e4,e5]
     have:=Eqv.half (m:=2 ^ f * 2) (xp f L b) (Nat.mul_mod_left _ _)
     rw [Nat.mul_div_cancel _ (by decide)] at this
     exact this
theorem Eqv.lE {m m':Nat}{x x':Int}(h:Eqv m x m' x'):lE m x m' x':=by
 obtain ⟨K,a,b,q⟩:=h
 exact ⟨K,a,b,Nat.le_of_eq q⟩
def hM (f b:Nat):Nat:=2 * mt f b+1
def hX (f:Nat) (L:Int) (b:Nat):Int:=xp f L b - 1
theorem sD (m:Nat) (x:Int):ev (x - 1) m x=m * 2:=by
 unfold ev
 rw [show (x - (x - 1)).toNat=1 by omega]
theorem aB (m:Nat) (x:Int):ev x m x=m:=by
 unfold ev
 rw [Int.sub_self]
 simp
theorem iM (f:Nat) (L:Int) (b:Nat):lT (mt f b) (xp f L b) (hM f b) (hX f L b):=by
 refine ⟨xp f L b - 1,by omega,Int.le_refl _,?_⟩
 unfold hM hX
 rw [sD,aB]
 omega
theorem iB (f:Nat) (L:Int) (b:Nat):lT (hM f b) (hX f L b) (mt f (b+1)) (xp f L (b+1)):=by
 refine lT.trans (m':=mt f b+1) (x':=xp f L b) ⟨xp f L b - 1,Int.le_refl _,by omega,?_⟩ (sN f L b).lE
 unfold hM hX
 rw [sD,aB]
 omega
theorem iQ (f:Nat) (L:Int) (b:Nat):lT (hM f b) (hX f L b) (hM f (b+1)) (hX f L (b+1)):=(iB f L b).trans (iM f L (b+1)).le
def Up (f:Nat) (L:Int) (n d:Nat) (e:Int) (more:Bool) (b:Nat):Prop :=
 vL n d e (hM f b) (hX f L b) \/ (vE n d e (hM f b) (hX f L b)/\b % 2=0/\more=false)
def RD (f:Nat) (L:Int) (n d:Nat) (e:Int) (more:Bool) (b:Nat):Prop:=Up f L n d e more b/\(b=0 \/ ¬ Up f L n d e more (b - 1))
theorem Up.succ {f:Nat}{L:Int}{n d:Nat}{e:Int}{more:Bool}{b:Nat}(d0:0<d) (h:Up f L n d e more b):Up f L n d e more (b+1):=by
 rcases h with h | ⟨h,_,_⟩
 . exact .inl (h.up (iQ f L b).le)
 . exact .inl (h.up d0 (iQ f L b))
theorem Up.mono {f:Nat}{L:Int}{n d:Nat}{e:Int}{more:Bool}{b b':Nat}(d0:0<d) (h:Up f L n d e more b) (k:b<=b'):Up f L n d e more b':=by
 obtain ⟨j,rfl⟩:∃ j,b'=b+j:=⟨b' - b,by omega⟩
 clear k
 induction j with
 | zero=>exact h
 | succ j ih=>exact ih.succ d0
theorem RD.le {f:Nat}{L:Int}{n d:Nat}{e:Int}{more:Bool}{b b':Nat}(d0:0<d) (h:RD f L n d e more b) (k:Up f L n d e more b'):b<=b':=by
 rcases h.2 with z | z
 . omega
 . rcases Nat.lt_or_ge b' b with c | c
   . exact absurd (k.mono d0 (by omega)) z
   . exact c
theorem RD.uniq {f:Nat}{L:Int}{n d:Nat}{e:Int}{more:Bool}{b b':Nat}(d0:0<d) (h:RD f L n d e more b) (k:RD f L n d e more b'):b=b' :=
 Nat.le_antisymm (h.le d0 k.1) (k.le d0 h.1)
theorem eX {n d n' d' m:Nat}{e e' x:Int}(d0:0<d) (d0':0<d') (h:Eqv (n * d') e (n' * d) e'):vL n d e m x ↔ vL n' d' e' m x:=by
 have key:=h.all (min x (min e e')) (by omega) (by omega)
 have a1:ev (min x (min e e')) (n * d') e=ev (min x (min e e')) n e * d':=by unfold ev;rw [Nat.mul_right_comm]
 have a2:ev (min x (min e e')) (n' * d) e'=ev (min x (min e e')) n' e' * d:=by unfold ev;rw [Nat.mul_right_comm]
 rw [a1,a2] at key
 generalize hK:min x (min e e')=K at key
 constructor
 . intro k
   refine ⟨K,by omega,by omega,?_⟩
   have q:=k.at K (by omega) (by omega)
   have q2:=Nat.mul_lt_mul_of_pos_right q d0'
   rw [key,Nat.mul_comm d,Nat.mul_right_comm] at q2
   have q3:=Nat.lt_of_mul_lt_mul_right q2
   rw [Nat.mul_comm] at q3
   exact q3
 . intro k
   refine ⟨K,by omega,by omega,?_⟩
   have q:=k.at K (by omega) (by omega)
   have q2:=Nat.mul_lt_mul_of_pos_right q d0
   rw [<- key,Nat.mul_comm d',Nat.mul_right_comm] at q2
   have q3:=Nat.lt_of_mul_lt_mul_right q2
   rw [Nat.mul_comm] at q3
   exact q3
theorem rM {n d n' d' m:Nat}{e e' x:Int}(d0:0<d) (d0':0<d') (h:Eqv (n * d') e (n' * d) e'):vE n d e m x ↔ vE n' d' e' m x:=by
 have key:=h.all (min x (min e e')) (by omega) (by omega)
 have a1:ev (min x (min e e')) (n * d') e=ev (min x (min e e')) n e * d':=by unfold ev;rw [Nat.mul_right_comm]
 have a2:ev (min x (min e e')) (n' * d) e'=ev (min x (min e e')) n' e' * d:=by unfold ev;rw [Nat.mul_right_comm]
 rw [a1,a2] at key
 generalize hK:min x (min e e')=K at key
 constructor
 . intro k
   refine ⟨K,by omega,by omega,?_⟩
   rw [k.at K (by omega) (by omega),Nat.mul_comm d,Nat.mul_right_comm] at key
   have:=Nat.eq_of_mul_eq_mul_right d0 key
   rw [<- this,Nat.mul_comm]
 . intro k
   refine ⟨K,by omega,by omega,?_⟩
   rw [k.at K (by omega) (by omega),Nat.mul_comm d',Nat.mul_right_comm] at key
   have:=Nat.eq_of_mul_eq_mul_right d0' key
   rw [this,Nat.mul_comm]
theorem pS {f:Nat}{L:Int}{n d n' d':Nat}{e e':Int}{more:Bool}(d0:0<d) (d0':0<d') (h:Eqv (n * d') e (n' * d) e') (b:Nat):Up f L n d e more b ↔ Up f L n' d' e' more b:=by
 unfold Up
 rw [eX d0 d0' h,rM d0 d0' h]
theorem aJ9 {f:Nat}{L:Int}{n d n' d':Nat}{e e':Int}{more:Bool}(d0:0<d) (d0':0<d') (h:Eqv (n * d') e (n' * d) e') (b:Nat):RD f L n d e more b ↔ RD f L n' d' e' more b:=by
 unfold RD
 rw [pS d0 d0' h,pS d0 d0' h]
theorem Up.less {f:Nat}{L:Int}{n n' d:Nat}{e:Int}{more:Bool}{b:Nat}(h:Up f L n' d e more b) (k:n<=n'):Up f L n d e more b:=by
 have key:∀ K,ev K n e<=ev K n' e:=fun K=>Nat.mul_le_mul_right _ k
 rcases h with h | ⟨h,h2,h3⟩
 . left
   refine ⟨min e (hX f L b),by omega,by omega,?_⟩
   exact Nat.lt_of_le_of_lt (key _) (h.at _ (by omega) (by omega))
 . have q:=h.at (min e (hX f L b)) (by omega) (by omega)
   have:=key (min e (hX f L b))
   rcases Nat.lt_or_ge (ev (min e (hX f L b)) n e) (ev (min e (hX f L b)) n' e) with c | c
   . exact .inl ⟨min e (hX f L b),by omega,by omega,by rw [<- q];exact c⟩
   . exact .inr ⟨⟨min e (hX f L b),by omega,by omega,by rw [<- q];omega⟩,h2,h3⟩
theorem RD.mono {f:Nat}{L:Int}{n n' d:Nat}{e:Int}{more:Bool}{b b':Nat}(d0:0<d) (k:n<=n') (h:RD f L n d e more b) (h':RD f L n' d e more b'):b<=b':=h.le d0 (h'.1.less k)
def rm (f:Nat) (L:Int) (m:Nat) (e:Int):Int:=min ((f:Int)+1 - (ln m:Int)) (e - L)
def pl (m:Nat) (u:Int):Nat:=m * 2 ^ u.toNat / 2 ^ (-u).toNat
def ly (f:Nat) (L:Int) (M:Nat) (E:Int):Nat:=(E - L).toNat * 2 ^ f+M
theorem qZ {f:Nat}{t L:Int}(ht:2<=t) {M:Nat}{E:Int}(g:Good f L M E):out f t L M E=if L+t - 2<E then none else some (ly f L M E):=by
 obtain ⟨a,b,c⟩:=g
 unfold out ly
 have p:=Nat.two_pow_pos f
 rw [Nat.pow_succ] at a
 by_cases q:L+t - 2<E
 . rw [if_pos q,if_pos]
   right;right
   refine ⟨?_,by omega⟩
   rcases c with c | c
   . exact c
   . omega
 . rw [if_neg q,if_neg]
   . by_cases k:M<2 ^ f
     . rw [if_pos k]
       have:E=L:=by
        rcases c with c | c
        . omega
        . exact c
       subst this
       simp
     . rw [if_neg k]
       congr 1
       have:(E - L+1).toNat=(E - L).toNat+1:=by omega
       rw [this,Nat.succ_mul]
       omega
   . rw [Nat.pow_succ]
     rintro (x | x | ⟨x,y⟩) <;> omega
theorem oE {f:Nat}{t L:Int}(ht:2<=t) {m:Nat}{e:Int}(m0:m ≠ 0) (h:L+t - 2+f<e):pk f t L m e=none:=by
 obtain ⟨M,E,q,fin,r⟩:=PK.ex f t L e m0
 rw [r]
 rcases fin.cases with g | ⟨_,b⟩
 . rw [qZ ht g,if_pos]
   obtain ⟨a1,a2,a3⟩:=g
   by_cases c:E<=e
   . have d:=q.up c
     have:2 ^ (e - E).toNat<=M:=by
      rw [d]
      exact Nat.le_mul_of_pos_left _ (Nat.pos_of_ne_zero m0)
     have:2 ^ (e - E).toNat<2 ^ (f+1):=Nat.lt_of_le_of_lt this a1
     have:=(Nat.pow_lt_pow_iff_right (show 1<2 by decide)).1 this
     omega
   . omega
 . exact cQ b
theorem aEU {f:Nat}{t L:Int}{m j z:Nat}{e:Int}(hm:m=2 ^ z * (2 * j+1)) (h:(z:Int) < -(rm f L m e)):pk f t L m e=none:=by
 have m0:m ≠ 0:=by
  rw [hm]
  exact Nat.ne_of_gt (Nat.mul_pos (Nat.two_pow_pos z) (by omega))
 have o0:2 * j+1 ≠ 0:=by omega
 have lz:ln m=ln (2 * j+1)+z:=by rw [hm,Nat.mul_comm];exact mH o0 z
 have q:Eqv m e (2 * j+1) (e+z):=by
  refine Eqv.of_dn (by omega) ?_
  rw [hm,Nat.mul_comm,show (e+(z:Int) - e).toNat=z by omega]
 have bad:2 ^ (f+1)<=2 * j+1 \/ e+z<L:=by
  unfold rm at h
  by_cases c:e+z<L
  . exact .inr c
  . left
    have:¬ ln (2 * j+1)<=f+1:=by omega
    rw [aE] at this
    omega
 have fin:Fin2 f L (2 * j+1) (e+z):=by
  refine ⟨?_,.inl (by omega)⟩
  rintro ⟨x,y⟩
  rcases bad with b | b
  . rw [Nat.pow_succ] at b
    omega
  . omega
 rw [gP m0 q,jT o0 fin,cQ bad]
theorem aCz {f:Nat}{L:Int}{m j z:Nat}{e:Int}(hm:m=2 ^ z * (2 * j+1)) (h:¬ (z:Int) < -(rm f L m e)):Good f L (pl m (rm f L m e)) (e - rm f L m e)/\Eqv m e (pl m (rm f L m e)) (e - rm f L m e)/\m * 2 ^ (rm f L m e).toNat<2 ^ max (ln m) (f+1):=by
 have m0:m ≠ 0:=by
  rw [hm]
  exact Nat.ne_of_gt (Nat.mul_pos (Nat.two_pow_pos z) (by omega))
 have o0:2 * j+1 ≠ 0:=by omega
 have lz:ln m=ln (2 * j+1)+z:=by rw [hm,Nat.mul_comm];exact mH o0 z
 obtain ⟨u,hu⟩:∃ u,u=rm f L m e:=⟨_,rfl⟩
 rw [<- hu] at h ⊢
 unfold rm at hu
 by_cases c:0<=u
 . obtain ⟨k,rfl⟩:∃ k:Nat,u=(k:Int):=⟨u.toNat,by omega⟩
   have e1:pl m (k:Int)=m * 2 ^ k:=by
    unfold pl
    rw [show ((k:Int)).toNat=k by omega,show (-(k:Int)).toNat=0 by omega,Nat.pow_zero,Nat.div_one]
   have l1:ln (m * 2 ^ k)=ln m+k:=mH m0 k
   rw [e1,show ((k:Int)).toNat=k by omega]
   refine ⟨⟨(aE _ _).1 (by omega),by omega,?_⟩,Eqv.shl m e k,(aE _ _).1 (by omega)⟩
   by_cases d:(k:Int)=e - L
   . right;omega
   . left
     have x0:m * 2 ^ k ≠ 0:=Nat.ne_of_gt (Nat.mul_pos (Nat.pos_of_ne_zero m0) (Nat.two_pow_pos k))
     have:=kC x0
     rw [l1,show ln m+k - 1=f by omega] at this
     exact this
 . obtain ⟨k,rfl⟩:∃ k:Nat,u = -(k:Int):=⟨(-u).toNat,by omega⟩
   have hk:k<=z:=by omega
   obtain ⟨i,rfl⟩:∃ i,z=k+i:=⟨z - k,by omega⟩
   have e0:m=2 ^ i * (2 * j+1) * 2 ^ k:=by rw [hm,Nat.pow_add];grind
   have e1:pl m (-(k:Int))=2 ^ i * (2 * j+1):=by
    unfold pl
    rw [show (-(k:Int)).toNat=0 by omega,show (-(-(k:Int))).toNat=k by omega,Nat.pow_zero,Nat.mul_one,e0,Nat.mul_div_cancel _ (Nat.two_pow_pos k)]
   have l1:ln (2 ^ i * (2 * j+1))=ln (2 * j+1)+i:=by rw [Nat.mul_comm];exact mH o0 i
   rw [e1,show (-(k:Int)).toNat=0 by omega,Nat.pow_zero,Nat.mul_one]
   refine ⟨⟨(aE _ _).1 (by omega),by omega,?_⟩,?_,(aE _ _).1 (by omega)⟩
   . by_cases d:-(k:Int)=e - L
     . right;omega
     . left
       have x0:2 ^ i * (2 * j+1) ≠ 0:=Nat.ne_of_gt (Nat.mul_pos (Nat.two_pow_pos i) (by omega))
       have:=kC x0
       rw [l1,show ln (2 * j+1)+i - 1=f by omega] at this
       exact this
   . refine Eqv.of_dn (by omega) ?_
     rw [show (e - -(k:Int) - e).toNat=k by omega]
     exact e0
theorem zU {f:Nat}{t L:Int}(ht:2<=t) {m j z:Nat}{e:Int}(hm:m=2 ^ z * (2 * j+1)) (h:¬ (z:Int) < -(rm f L m e)):pk f t L m e=if L+t - 2<e - rm f L m e then none else some (ly f L (pl m (rm f L m e)) (e - rm f L m e)):=by
 have m0:m ≠ 0:=by
  rw [hm]
  exact Nat.ne_of_gt (Nat.mul_pos (Nat.two_pow_pos z) (by omega))
 obtain ⟨a,b,_⟩:=aCz hm h
 rw [gP m0 b,jT (b.pos m0) a.fin,qZ ht a]
theorem kE {f:Nat}{L:Int}{M:Nat}{E:Int}(g:Good f L M E):mt f (ly f L M E)=M/\xp f L (ly f L M E)=E:=by
 obtain ⟨a,b,c⟩:=g
 have p:=Nat.two_pow_pos f
 rw [Nat.pow_succ] at a
 by_cases k:M<2 ^ f
 . have eL:E=L:=by
    rcases c with c | c
    . omega
    . exact c
   subst eL
   have e:ly f E M E=M:=by unfold ly;rw [Int.sub_self];simp
   have z:M / 2 ^ f=0:=Nat.div_eq_of_lt k
   rw [e]
   exact ⟨by unfold mt;rw [if_pos z],by unfold xp;rw [if_pos z]⟩
 . have e:ly f L M E=((E - L).toNat+1) * 2 ^ f+(M - 2 ^ f):=by
    unfold ly
    rw [Nat.succ_mul]
    omega
   have hd:(((E - L).toNat+1) * 2 ^ f+(M - 2 ^ f)) / 2 ^ f=(E - L).toNat+1:=by
    rw [Nat.mul_comm,Nat.mul_add_div p,Nat.div_eq_of_lt (by omega),Nat.add_zero]
   have hm:(((E - L).toNat+1) * 2 ^ f+(M - 2 ^ f)) % 2 ^ f=M - 2 ^ f:=by
    rw [Nat.mul_comm,Nat.mul_add_mod,Nat.mod_eq_of_lt (by omega)]
   rw [e]
   refine ⟨?_,?_⟩
   . unfold mt
     rw [hd,hm,if_neg (Nat.succ_ne_zero _)]
     omega
   . unfold xp
     rw [hd,if_neg (Nat.succ_ne_zero _)]
     omega
theorem aBv (f:Nat) (L:Int) (M:Nat) (E:Int):ly f L (M+1) E=ly f L M E+1:=rfl
theorem aBu {f:Nat}(hf:0<f) (L:Int) (M:Nat) (E:Int):ly f L M E % 2=M % 2:=by
 obtain ⟨k,rfl⟩:∃ k,f=k+1:=⟨f - 1,by omega⟩
 unfold ly
 rw [Nat.pow_succ,<- Nat.mul_assoc,Nat.add_comm,Nat.add_mul_mod_self_right]
theorem aGR {f:Nat}{L:Int}{E:Int}(h:L<=E):ly f L (2 ^ f) (E+1)=ly f L (2 ^ (f+1)) E:=by
 unfold ly
 rw [show (E+1 - L).toNat=(E - L).toNat+1 by omega,Nat.succ_mul,Nat.pow_succ,Nat.mul_two]
 omega
theorem aAb {n d y q r:Nat}{e l:Int}(d0:0<d) (y0:0<y) (h:Eqv (n * y) e ((q * y+r) * d) l):(vL n d e (2 * q+1) (l - 1) ↔ 2 * r<y)/\(vE n d e (2 * q+1) (l - 1) ↔ 2 * r=y):=by
 have a:=eX (m:=2 * q+1) (x:=l - 1) d0 y0 h
 have b:=rM (m:=2 * q+1) (x:=l - 1) d0 y0 h
 rw [a,b]
 have e1:ev (l - 1) (q * y+r) l=(q * y+r) * 2:=sD _ _
 have e2:ev (l - 1) (2 * q+1) (l - 1)=2 * q+1:=aB _ _
 have e3:y * (2 * q+1)=q * y * 2+y:=by rw [Nat.mul_add,Nat.mul_one,Nat.mul_comm 2 q,<- Nat.mul_assoc,Nat.mul_comm y q]
 constructor
 . constructor
   . intro k
     have:=k.at (l - 1) (by omega) (Int.le_refl _)
     rw [e1,e2,e3] at this
     omega
   . intro k
     refine ⟨l - 1,by omega,Int.le_refl _,?_⟩
     rw [e1,e2,e3]
     omega
 . constructor
   . intro k
     have:=k.at (l - 1) (by omega) (Int.le_refl _)
     rw [e1,e2,e3] at this
     omega
   . intro k
     refine ⟨l - 1,by omega,Int.le_refl _,?_⟩
     rw [e1,e2,e3]
     omega
theorem wQ {f:Nat}{L:Int}{n d:Nat}{e:Int}{more:Bool}{b:Nat}(d0:0<d) (h:¬ vL n d e (mt f b) (xp f L b)) (k:Up f L n d e more b):RD f L n d e more b:=by
 refine ⟨k,?_⟩
 by_cases z:b=0
 . exact .inl z
 . right
   intro u
   obtain ⟨c,rfl⟩:∃ c,b=c+1:=⟨b - 1,by omega⟩
   rw [Nat.add_sub_cancel] at u
   rcases u with u | ⟨u,_,_⟩
   . exact h (u.up (iB f L c).le)
   . exact h (u.up d0 (iB f L c))
theorem aFX {f:Nat}{L:Int}{n d:Nat}{e:Int}{more:Bool}{b:Nat}(d0:0<d) (h:¬ Up f L n d e more b) (k:vL n d e (mt f (b+1)) (xp f L (b+1)) \/ vE n d e (mt f (b+1)) (xp f L (b+1))):RD f L n d e more (b+1):=by
 refine ⟨?_,.inr ?_⟩
 . rcases k with k | k
   . exact .inl (k.up (iM f L (b+1)).le)
   . exact .inl (k.up d0 (iM f L (b+1)))
 . rw [Nat.add_sub_cancel]
   exact h
theorem aCZ {f:Nat}{L:Int}{n d:Nat}{e:Int}{b:Nat}(more:Bool) (d0:0<d) (h:vE n d e (mt f b) (xp f L b)):RD f L n d e more b :=
 wQ d0 (fun k=>k.not_vE h) (.inl (h.up d0 (iM f L b)))
def rU (more:Bool) (q r y:Nat):Bool:=decide (y<2 * r \/ (2 * r=y/\(more=true \/ q % 2=1)))
def rQ (more:Bool) (q r y:Nat):Nat:=q+(if rU more q r y then 1 else 0)
theorem aAa {f:Nat}(hf:0<f) {L:Int}{n d y q r:Nat}{e l:Int}(more:Bool) (d0:0<d) (hr:r<y) (g:Good f L q l) (h:Eqv (n * y) e ((q * y+r) * d) l):RD f L n d e more (ly f L (rQ more q r y) l):=by
 have y0:0<y:=by omega
 obtain ⟨e1,e2⟩:=kE g
 obtain ⟨i1,i2⟩:=aAb d0 y0 h
 have ev2:=aBu hf L q l
 have up:Up f L n d e more (ly f L q l) ↔ rU more q r y=false:=by
  unfold Up hM hX
  rw [e1,e2,i1,i2,ev2]
  unfold rU
  rw [decide_eq_false_iff_not]
  have c:q % 2=0 \/ q % 2=1:=by omega
  cases more
  . simp
    omega
  . simp
    omega
 unfold rQ
 by_cases u:rU more q r y=true
 . rw [if_pos u,aBv]
   refine aFX d0 (fun x=>by rw [up.1 x] at u;cases u) (.inl ?_)
   have k:vL n d e (q+1) l:=by
    rw [eX (m:=q+1) (x:=l) d0 y0 h]
    refine ⟨l,Int.le_refl _,Int.le_refl _,?_⟩
    rw [aB,aB,Nat.mul_add,Nat.mul_one,Nat.mul_comm y q]
    omega
   have s:=sN f L (ly f L q l)
   rw [e1,e2] at s
   exact k.up s.lE
 . rw [if_neg u,Nat.add_zero]
   refine wQ d0 ?_ (up.2 (Bool.eq_false_iff.2 u))
   rw [e1,e2]
   intro x
   rw [eX (m:=q) (x:=l) d0 y0 h] at x
   have:=x.at l (Int.le_refl _) (Int.le_refl _)
   rw [aB,aB,Nat.mul_comm y q] at this
   omega
theorem wK {f T:Nat}{L:Int}(hT:2<=T) {Q:Nat}{l:Int}(hQ:Q ≠ 0) (h1:Q<=2 ^ (f+1)) (h2:L<=l) (h3:2 ^ f<=Q \/ l=L):pk f (T:Int) L Q l=if ly f L Q l<T * 2 ^ f then some (ly f L Q l) else none:=by
 have p:=Nat.two_pow_pos f
 have fits:∀ {M:Nat} {E:Int},Good f L M E -> ((¬ L+(T:Int) - 2<E) ↔ ly f L M E<T * 2 ^ f):=by
  rintro M E ⟨a,b,c⟩
  rw [Nat.pow_succ] at a
  unfold ly
  obtain ⟨j,hj⟩:∃ j,j=(E - L).toNat:=⟨_,rfl⟩
  rw [<- hj]
  constructor
  . intro x
    have:(j+2) * 2 ^ f<=T * 2 ^ f:=Nat.mul_le_mul_right _ (by omega)
    rw [Nat.add_mul] at this
    omega
  . intro x y
    have c':2 ^ f<=M:=by
     rcases c with c | c
     . exact c
     . omega
    have:T * 2 ^ f<=(j+1) * 2 ^ f:=Nat.mul_le_mul_right _ (by omega)
    rw [Nat.succ_mul] at this
    omega
 by_cases k:Q<2 ^ (f+1)
 . have g:Good f L Q l:=⟨k,h2,h3⟩
   rw [jT hQ g.fin,qZ (by omega) g]
   by_cases c:L+(T:Int) - 2<l
   . rw [if_pos c,if_neg (fun x=>((fits g).2 x) c)]
   . rw [if_neg c,if_pos ((fits g).1 c)]
 . have e:Q=2 ^ (f+1):=by omega
   have g:Good f L (2 ^ f) (l+1):=⟨Nat.pow_lt_pow_right (by decide) (by omega),by omega,.inl (Nat.le_refl _)⟩
   have q:Eqv Q l (2 ^ f) (l+1):=by
    have:=Eqv.half (m:=2 ^ f * 2) l (Nat.mul_mod_left _ _)
    rw [Nat.mul_div_cancel _ (by decide),<- Nat.pow_succ,<- e] at this
    exact this
   rw [gP hQ q,jT (q.pos hQ) g.fin,qZ (by omega) g,e,<- aGR h2]
   by_cases c:L+(T:Int) - 2<l+1
   . rw [if_pos c,if_neg (fun x=>((fits g).2 x) c)]
   . rw [if_neg c,if_pos ((fits g).1 c)]
def Fst (n d:Nat) (E:Int):Prop:=¬ vL n d 0 1 E/\vL n d 0 1 (E+1)
theorem dO (K x:Int):ev K 1 x=2 ^ (x - K).toNat:=by unfold ev;rw [Nat.one_mul]
theorem aKP {n d:Nat}(d0:d ≠ 0):vL n d 0 1 ((ln n:Int) - (ln d:Int)+1):=by
 have a:=nX n
 have b:=kC d0
 have p:=qO d0
 refine ⟨-(ln d:Int),by omega,by omega,?_⟩
 rw [dO]
 unfold ev
 rw [show ((ln n:Int) - (ln d:Int)+1 - -(ln d:Int)).toNat=ln n+1 by omega,show (0 - -(ln d:Int)).toNat=ln d by omega]
 calc n * 2 ^ ln d<2 ^ ln n * 2 ^ ln d:=Nat.mul_lt_mul_of_pos_right a (Nat.two_pow_pos _)
  _=2 ^ (ln d - 1) * 2 ^ (ln n+1):=by rw [<- Nat.pow_add,<- Nat.pow_add,show ln n+ln d=ln d - 1+(ln n+1) by omega]
  _<=d * 2 ^ (ln n+1):=Nat.mul_le_mul_right _ b
theorem aKQ {n d:Nat}(n0:n ≠ 0):¬ vL n d 0 1 ((ln n:Int) - (ln d:Int) - 1):=by
 intro k
 have a:=nX d
 have b:=kC n0
 have p:=qO n0
 have q:=k.at (-(ln d:Int) - 1) (by omega) (by omega)
 rw [dO] at q
 unfold ev at q
 rw [show ((ln n:Int) - (ln d:Int) - 1 - (-(ln d:Int) - 1)).toNat=ln n by omega,show (0 - (-(ln d:Int) - 1)).toNat=ln d+1 by omega] at q
 have r:2 ^ ln d * 2 ^ ln n<=n * 2 ^ (ln d+1):=by
  calc 2 ^ ln d * 2 ^ ln n=2 ^ (ln n - 1) * 2 ^ (ln d+1):=by rw [<- Nat.pow_add,<- Nat.pow_add,show ln d+ln n=ln n - 1+(ln d+1) by omega]
   _<=n * 2 ^ (ln d+1):=Nat.mul_le_mul_right _ b
 have s:d * 2 ^ ln n<=2 ^ ln d * 2 ^ ln n:=Nat.mul_le_mul_right _ (Nat.le_of_lt a)
 omega
theorem aKR {n d:Nat}(n0:n ≠ 0) (d0:d ≠ 0):(vL n d 0 1 ((ln n:Int) - (ln d:Int)) -> Fst n d ((ln n:Int) - (ln d:Int) - 1))/\(¬ vL n d 0 1 ((ln n:Int) - (ln d:Int)) -> Fst n d ((ln n:Int) - (ln d:Int))):=by
 refine ⟨fun k=>⟨aKQ n0,?_⟩,fun k=>⟨k,aKP d0⟩⟩
 rw [show (ln n:Int) - (ln d:Int) - 1+1=(ln n:Int) - (ln d:Int) by omega]
 exact k
theorem kS {f:Nat}{L:Int}{n d:Nat}{e E l:Int}(d0:d ≠ 0) (h:Fst n d E) (hl:l=max (E+e - f) L):Good f L (n * 2 ^ (e - l).toNat / (d * 2 ^ (l - e).toNat)) l/\Eqv (n * (d * 2 ^ (l - e).toNat)) e (n * 2 ^ (e - l).toNat * d) l:=by
 have dp:0<d:=Nat.pos_of_ne_zero d0
 have yp:0<d * 2 ^ (l - e).toNat:=Nat.mul_pos dp (Nat.two_pow_pos _)
 have lo:=fun x=>h.1 x
 have hi:=h.2
 have key:Eqv (n * (d * 2 ^ (l - e).toNat)) e (n * 2 ^ (e - l).toNat * d) l:=by
  rcases Int.le_total e l with c | c
  . refine Eqv.of_dn c ?_
    rw [show (e - l).toNat=0 by omega,Nat.pow_zero,Nat.mul_one,<- Nat.mul_assoc]
  . refine Eqv.symm (Eqv.of_dn c ?_)
    rw [show (l - e).toNat=0 by omega,Nat.pow_zero,Nat.mul_one]
    rw [Nat.mul_right_comm]
 -- the number against 2^x,at the two ends
 have sh:∀ k:Nat,∀ x:Int,x=l+k - e -> (vL n d 0 1 x ↔ n * 2 ^ (e - l).toNat<d * 2 ^ (l - e).toNat * 2 ^ k):=by
  intro k x hx
  have s:=eX (n:=n) (d:=d) (n':=n * 2 ^ (e - l).toNat) (d':=d * 2 ^ (l - e).toNat) (m:=2 ^ k) (e:=e) (e':=l) (x:=l) dp yp key
  have t:vL n d 0 1 x ↔ vL n d e (2 ^ k) l:=by
   constructor
   . intro u
     have q:=u.at (min (min 0 x) (min (l - e) (-e))) (by omega) (by omega)
     obtain ⟨K,hK⟩:∃ K,K=min (min 0 x) (min (l - e) (-e)):=⟨_,rfl⟩
     rw [<- hK] at q
     refine ⟨K+e,by omega,by omega,?_⟩
     rw [dO] at q
     unfold ev at q ⊢
     rw [show (e - (K+e)).toNat=(0 - K).toNat by omega,<- Nat.pow_add,show k+(l - (K+e)).toNat=(x - K).toNat by omega]
     exact q
   . intro u
     have q:=u.at (min (min 0 x) (min (l - e) (-e))+e) (by omega) (by omega)
     obtain ⟨K,hK⟩:∃ K,K=min (min 0 x) (min (l - e) (-e)):=⟨_,rfl⟩
     rw [<- hK] at q
     refine ⟨K,by omega,by omega,?_⟩
     rw [dO]
     unfold ev at q ⊢
     rw [show (e - (K+e)).toNat=(0 - K).toNat by omega,<- Nat.pow_add,show k+(l - (K+e)).toNat=(x - K).toNat by omega] at q
     exact q
  rw [t,s]
  constructor
  . intro u
    have:=u.at l (Int.le_refl _) (Int.le_refl _)
    rw [aB,aB] at this
    exact this
  . intro u
    exact ⟨l,Int.le_refl _,Int.le_refl _,by rw [aB,aB];exact u⟩
 refine ⟨⟨?_,by omega,?_⟩,key⟩
 . rw [Nat.div_lt_iff_lt_mul yp,Nat.mul_comm (2 ^ (f+1))]
   have up:vL n d 0 1 (l+(f+1:Nat) - e):=by
    refine hi.up ⟨min (E+1) (l+(f+1:Nat) - e),by omega,by omega,?_⟩
    rw [dO,dO]
    exact Nat.pow_le_pow_right (by decide) (by omega)
   exact (sh (f+1) _ rfl).1 up
 . by_cases c:l=L
   . exact .inr c
   . left
     rw [Nat.le_div_iff_mul_le yp,Nat.mul_comm (2 ^ f)]
     have hE:E=l+(f:Nat) - e:=by omega
     exact Nat.not_lt.1 (fun x=>lo ((sh f E hE).2 x))
def eY (n d:Nat) (x:Int):Bool:=decide (n * 2 ^ (-x).toNat<d * 2 ^ x.toNat)
theorem aFP (n d:Nat) (x:Int):vL n d 0 1 x ↔ eY n d x=true:=by
 unfold eY
 rw [decide_eq_true_iff]
 have e1:ev (min 0 x) n 0=n * 2 ^ (-x).toNat:=by unfold ev;rw [show (0 - min 0 x).toNat=(-x).toNat by omega]
 have e2:ev (min 0 x) 1 x=2 ^ x.toNat:=by rw [dO,show (x - min 0 x).toNat=x.toNat by omega]
 constructor
 . intro h
   have:=h.at (min 0 x) (by omega) (by omega)
   rw [e1,e2] at this
   exact this
 . intro h
   exact ⟨min 0 x,by omega,by omega,by rw [e1,e2];exact h⟩
def fE (n d:Nat):Int:=if eY n d ((ln n:Int) - (ln d:Int)) then (ln n:Int) - (ln d:Int) - 1 else (ln n:Int) - (ln d:Int)
def lE' (f:Nat) (L:Int) (n d:Nat) (e:Int):Int:=max (fE n d+e - f) L
theorem yE {n d:Nat}(n0:n ≠ 0) (d0:d ≠ 0):Fst n d (fE n d):=by
 obtain ⟨a,b⟩:=aKR n0 d0
 unfold fE
 by_cases c:eY n d ((ln n:Int) - (ln d:Int))=true
 . rw [if_pos c];exact a ((aFP _ _ _).2 c)
 . rw [if_neg c];exact b (fun x=>c ((aFP _ _ _).1 x))
def rX (n:Nat) (e l:Int):Nat:=n * 2 ^ (e - l).toNat
def rY (d:Nat) (e l:Int):Nat:=d * 2 ^ (l - e).toNat
def rdM (f:Nat) (L:Int) (n d:Nat) (e:Int) (more:Bool):Nat :=
 rQ more (rX n e (lE' f L n d e) / rY d e (lE' f L n d e)) (rX n e (lE' f L n d e) % rY d e (lE' f L n d e)) (rY d e (lE' f L n d e))
def rdN (f:Nat) (L:Int) (n d:Nat) (e:Int) (more:Bool):Nat:=ly f L (rdM f L n d e more) (lE' f L n d e)
theorem aAh {f:Nat}{L:Int}{n d:Nat}(e:Int) (n0:n ≠ 0) (d0:d ≠ 0):Good f L (rX n e (lE' f L n d e) / rY d e (lE' f L n d e)) (lE' f L n d e):=(kS d0 (yE n0 d0) rfl).1
theorem eQ {f:Nat}(hf:0<f) {L:Int}{n d:Nat}{e:Int}(more:Bool) (n0:n ≠ 0) (d0:d ≠ 0):RD f L n d e more (rdN f L n d e more):=by
 obtain ⟨g,h⟩:=kS (f:=f) (L:=L) (e:=e) d0 (yE n0 d0) rfl
 have yp:0<rY d e (lE' f L n d e):=Nat.mul_pos (Nat.pos_of_ne_zero d0) (Nat.two_pow_pos _)
 refine aAa hf more (Nat.pos_of_ne_zero d0) (Nat.mod_lt _ yp) g ?_
 rw [Nat.div_add_mod']
 exact h
theorem aLw {f:Nat}(hf:0<f) {L:Int}{n d:Nat}{e:Int}{more:Bool}{b:Nat}(n0:n ≠ 0) (d0:d ≠ 0) (h:RD f L n d e more b):rdN f L n d e more=b:=RD.uniq (Nat.pos_of_ne_zero d0) (eQ hf more n0 d0) h
theorem aE5 {f:Nat}{L:Int}{n d:Nat}{e:Int}(more:Bool) (n0:n ≠ 0) (d0:d ≠ 0):rdM f L n d e more<=2 ^ (f+1)/\(2 ^ f<=rdM f L n d e more \/ lE' f L n d e=L)/\L<=lE' f L n d e:=by
 obtain ⟨a,b,c⟩:=aAh (f:=f) (L:=L) e n0 d0
 unfold rdM rQ
 refine ⟨by split <;> omega,?_,b⟩
 rcases c with c | c
 . left;split <;> omega
 . exact .inr c
theorem aLv {f T:Nat}{L:Int}(hT:2<=T) {n d:Nat}{e:Int}(more:Bool) (n0:n ≠ 0) (d0:d ≠ 0) (h:rdM f L n d e more ≠ 0):pk f (T:Int) L (rdM f L n d e more) (lE' f L n d e)=if rdN f L n d e more<T * 2 ^ f then some (rdN f L n d e more) else none:=by
 obtain ⟨a,b,c⟩:=aE5 (f:=f) (L:=L) (e:=e) more n0 d0
 exact wK hT h a c b
theorem aHo {f T:Nat}{L:Int}{n d:Nat}{e:Int}{more:Bool}(hT:2<=T) (n0:n ≠ 0) (d0:d ≠ 0) (h:rdM f L n d e more=0):rdN f L n d e more=0/\0<T * 2 ^ f:=by
 obtain ⟨a,b,c⟩:=aE5 (f:=f) (L:=L) (e:=e) more n0 d0
 have p:=Nat.two_pow_pos f
 refine ⟨?_,Nat.mul_pos (by omega) p⟩
 unfold rdN ly
 rw [h] at b ⊢
 rcases b with b | b
 . omega
 . rw [b,Int.sub_self];simp
def rdA (f T:Nat) (L:Int) (n d:Nat) (e:Int) (more:Bool):Nat × Bool :=
 if n=0 then (0,false) else if rdN f L n d e more<T * 2 ^ f then (rdN f L n d e more,false) else (T * 2 ^ f,true)
theorem bU {f T:Nat}(hf:0<f) {L:Int}{n d:Nat}{e:Int}{more:Bool}{b:Nat}(n0:n ≠ 0) (d0:d ≠ 0) (h:RD f L n d e more b):rdA f T L n d e more=if b<T * 2 ^ f then (b,false) else (T * 2 ^ f,true):=by
 unfold rdA
 rw [if_neg n0,aLw hf n0 d0 h]
theorem kT {f T:Nat}(hf:0<f) {L:Int}{n d n' d':Nat}{e e':Int}{more:Bool}(d0:d ≠ 0) (d0':d' ≠ 0) (h:Eqv (n * d') e (n' * d) e'):rdA f T L n d e more=rdA f T L n' d' e' more:=by
 by_cases z:n=0
 . have z':n'=0:=by
    by_cases k:n'=0
    . exact k
    . exfalso
      refine h.symm.pos (Nat.mul_ne_zero k d0) ?_
      rw [z,Nat.zero_mul]
   unfold rdA
   rw [if_pos z,if_pos z']
 . have z':n' ≠ 0:=by
    rintro rfl
    refine h.pos (Nat.mul_ne_zero z d0') ?_
    rw [Nat.zero_mul]
   have r:=eQ (f:=f) (L:=L) (e:=e') hf more z' d0'
   rw [bU (e:=e') hf z' d0' r]
   exact bU hf z d0 ((aJ9 (Nat.pos_of_ne_zero d0) (Nat.pos_of_ne_zero d0') h _).2 r)
theorem aAg {f T:Nat}(hf:0<f) {L:Int}{n n' d:Nat}{e:Int}{more:Bool}(d0:d ≠ 0) (h:n<=n'):(rdA f T L n d e more).1<=(rdA f T L n' d e more).1:=by
 by_cases z:n=0
 . unfold rdA
   rw [if_pos z]
   exact Nat.zero_le _
 . have z':n' ≠ 0:=by omega
   have m:=RD.mono (Nat.pos_of_ne_zero d0) h (eQ (f:=f) (L:=L) (e:=e) hf more z d0) (eQ (f:=f) (L:=L) (e:=e) hf more z' d0)
   unfold rdA
   rw [if_neg z,if_neg z']
   split <;> split <;> simp only <;> omega
theorem fG {f T:Nat}{L:Int}{n d:Nat}{e:Int}{more:Bool}(hT:0<T):(rdA f T L n d e more).1<=T * 2 ^ f/\((rdA f T L n d e more).2=true ↔ (rdA f T L n d e more).1=T * 2 ^ f):=by
 have p:0<T * 2 ^ f:=Nat.mul_pos hT (Nat.two_pow_pos f)
 unfold rdA
 split
 . refine ⟨Nat.zero_le _,?_⟩
   simp only
   constructor
   . intro x;cases x
   . intro x;omega
 . split
   . rename_i k
     refine ⟨Nat.le_of_lt k,?_⟩
     simp only
     constructor
     . intro x;cases x
     . intro x;omega
   . exact ⟨Nat.le_refl _,⟨fun _=>rfl,fun _=>rfl⟩⟩
theorem sS {f T:Nat}(hf:0<f) (hT:0<T) {L:Int}{n d N:Nat}{e:Int}(more:Bool) (d0:d ≠ 0) (hn:n<2 ^ N) (h:e+N<=L - 1):rdA f T L n d e more=(0,false):=by
 by_cases z:n=0
 . unfold rdA;rw [if_pos z]
 . have p:0<T * 2 ^ f:=Nat.mul_pos hT (Nat.two_pow_pos f)
   have m0:mt f 0=0:=by unfold mt;rw [Nat.zero_div];rfl
   have x0:xp f L 0=L:=by unfold xp;rw [Nat.zero_div];rfl
   have u:Up f L n d e more 0:=by
    left
    unfold hM hX
    rw [m0,x0]
    refine ⟨e,Int.le_refl _,by omega,?_⟩
    rw [aB,show 2 * 0+1=1 from rfl,dO]
    have a:2 ^ N<=2 ^ (L - 1 - e).toNat:=Nat.pow_le_pow_right (by decide) (by omega)
    have b:=Nat.le_mul_of_pos_left (2 ^ (L - 1 - e).toNat) (Nat.pos_of_ne_zero d0)
    omega
   rw [bU hf z d0 ⟨u,.inl rfl⟩,if_pos p]
theorem pK {f T:Nat}(hf:0<f) (hT:1<=T) {L:Int}{n d N:Nat}{e:Int}(more:Bool) (n0:n ≠ 0) (d0:d ≠ 0) (hd:d<2 ^ N) (h:(f:Int)+L+T - 1+N<=e):rdA f T L n d e more=(T * 2 ^ f,true):=by
 have p:0<T * 2 ^ f:=Nat.mul_pos hT (Nat.two_pow_pos f)
 have pf:=Nat.two_pow_pos f
 have r:=eQ (f:=f) (L:=L) (e:=e) hf more n0 d0
 rw [bU hf n0 d0 r,if_neg]
 intro c
 have k:=r.1.mono (Nat.pos_of_ne_zero d0) (show rdN f L n d e more<=T * 2 ^ f - 1 by omega)
 have hv:=iB f L (T * 2 ^ f - 1)
 rw [show T * 2 ^ f - 1+1=T * 2 ^ f by omega] at hv
 have v:vL n d e (mt f (T * 2 ^ f)) (xp f L (T * 2 ^ f)):=by
  rcases k with k | ⟨k,_,_⟩
  . exact k.up hv.le
  . exact k.up (Nat.pos_of_ne_zero d0) hv
 have dv:T * 2 ^ f / 2 ^ f=T:=Nat.mul_div_cancel _ pf
 have md:T * 2 ^ f % 2 ^ f=0:=Nat.mul_mod_left _ _
 have e1:mt f (T * 2 ^ f)=2 ^ f:=by unfold mt;rw [dv,md,if_neg (by omega),Nat.zero_add]
 have e2:xp f L (T * 2 ^ f)=L+T - 1:=by unfold xp;rw [dv,if_neg (by omega)]
 rw [e1,e2] at v
 have q:=v.at (L+T - 1) (by omega) (Int.le_refl _)
 rw [aB] at q
 unfold ev at q
 have a:2 ^ (f+N)<=2 ^ (e - (L+T - 1)).toNat:=Nat.pow_le_pow_right (by decide) (by omega)
 have b:=Nat.le_mul_of_pos_left (2 ^ (e - (L+T - 1)).toNat) (Nat.pos_of_ne_zero n0)
 have c2:d * 2 ^ f<=2 ^ N * 2 ^ f:=Nat.mul_le_mul_right _ (Nat.le_of_lt hd)
 rw [<- Nat.pow_add,Nat.add_comm] at c2
 omega
def Frc (n d m:Nat) (e:Int):Prop:=vE n d 0 m e/\∃ k,d=2 ^ k/\(n % 2=1 \/ k=0)
theorem aIM     {n n' k k' : Nat} (h : n * 2 ^ k' = n' * 2 ^ k) (b : n' % 2 = 1 ∨ k' = 0) (c : k ≤ k') : n = n' ∧ k = k' := by
  obtain ⟨j, rfl⟩ : ∃ j, k' = k + j := ⟨k' - k, by omega⟩
  rw [Nat.pow_add, Nat.mul_comm (2 ^ k), ← Nat.mul_assoc] at h
  have e := Nat.eq_of_mul_eq_mul_right (Nat.two_pow_pos k) h
  cases j with
  | zero => exact ⟨by rw [← e]; simp, rfl⟩
  | succ j =>
    exfalso
    rw [Nat.pow_succ, ← Nat.mul_assoc] at e
    omega
def ex1:Nat -> Nat -> Int -> Nat × Int
 | 0,m,e=>(m,e)
 | k+1,m,e=>if m ≠ 0/\m % 2=0/\e<0 then ex1 k (m / 2) (e+1) else (m,e)
theorem aKH    : ∀ (k m : Nat) (e : Int), m ≤ k → Eqv m e (ex1 k m e).1 (ex1 k m e).2 ∧ (m = 0 ∨ (ex1 k m e).1 % 2 = 1 ∨ 0 ≤ (ex1 k m e).2) := by
  intro k
  induction k with
  | zero =>
    intro m e h
    exact ⟨Eqv.rfl' m e, .inl (by omega)⟩
  | succ k ih =>
    intro m e h
    by_cases c : m ≠ 0 ∧ m % 2 = 0 ∧ e < 0
    · have q : ex1 (k + 1) m e = ex1 k (m / 2) (e + 1) := if_pos c
      rw [q]
      obtain ⟨a, b⟩ := ih (m / 2) (e + 1) (by omega)
      refine ⟨(Eqv.half e c.2.1).trans a, ?_⟩
      rcases b with b | b
      · omega
      · exact .inr b
    · have q : ex1 (k + 1) m e = (m, e) := if_neg c
      rw [q]
      refine ⟨Eqv.rfl' m e, ?_⟩
      by_cases z : m = 0
      · exact .inl z
      · right
        by_cases o : m % 2 = 1
        · exact .inl o
        · right
          have : ¬ e < 0 := fun x => c ⟨z, by omega, x⟩
          show 0 ≤ e
          omega
def exN (m:Nat) (e:Int):Nat:=(ex1 m m e).1 * 2 ^ (ex1 m m e).2.toNat
def exD (m:Nat) (e:Int):Nat:=if m=0 then 1 else 2 ^ (-(ex1 m m e).2).toNat
theorem aFO {n d m m':Nat}{e x x':Int}(h:vE n d e m x) (k:Eqv m x m' x'):vE n d e m' x':=by
 refine ⟨min e (min x x'),by omega,by omega,?_⟩
 rw [h.at _ (by omega) (by omega),k.all _ (by omega) (by omega)]
theorem aDR (m:Nat) (e:Int):Frc (exN m e) (exD m e) m e:=by
 obtain ⟨q,s⟩:=aKH m m e (Nat.le_refl m)
 unfold exN exD
 generalize hM:(ex1 m m e).1=M at *
 generalize hE:(ex1 m m e).2=E at *
 by_cases z:m=0
 . have M0:M=0:=by
    by_cases k:M=0
    . exact k
    . exact absurd z (q.symm.pos k)
   rw [if_pos z,M0,z,Nat.zero_mul]
   refine ⟨⟨min 0 e,by omega,by omega,?_⟩,0,rfl,.inr rfl⟩
   unfold ev
   simp
 . rw [if_neg z]
   refine ⟨?_,(-E).toNat,rfl,?_⟩
   . have v:vE (M * 2 ^ E.toNat) (2 ^ (-E).toNat) 0 M E:=by
      refine ⟨min 0 E,by omega,by omega,?_⟩
      unfold ev
      rw [Nat.mul_assoc,<- Nat.pow_add,Nat.mul_comm (2 ^ (-E).toNat),Nat.mul_assoc,<- Nat.pow_add]
      rw [show E.toNat+(0 - min 0 E).toNat=(E - min 0 E).toNat+(-E).toNat by omega]
     exact aFO v q.symm
   . rcases s with s | s | s
     . exact absurd s z
     . by_cases c:0<=E
       . right;omega
       . left
         rw [show E.toNat=0 by omega,Nat.pow_zero,Nat.mul_one]
         exact s
     . right;omega
theorem Frc.pos {n d m:Nat}{e:Int}(h:Frc n d m e):0<d:=by
 obtain ⟨_,k,rfl,_⟩:=h
 exact Nat.two_pow_pos k
theorem Frc.zero {n d m:Nat}{e:Int}(h:Frc n d m e):n=0 ↔ m=0:=by
 have q:=h.1.at (min 0 e) (by omega) (by omega)
 have dp:=h.pos
 unfold ev at q
 have p1:=Nat.two_pow_pos (0 - min 0 e).toNat
 have p2:=Nat.two_pow_pos (e - min 0 e).toNat
 constructor
 . rintro rfl
   rw [Nat.zero_mul] at q
   by_cases k:m=0
   . exact k
   . have:=Nat.mul_pos dp (Nat.mul_pos (Nat.pos_of_ne_zero k) p2)
     omega
 . rintro rfl
   rw [Nat.zero_mul,Nat.mul_zero] at q
   by_cases k:n=0
   . exact k
   . have:=Nat.mul_pos (Nat.pos_of_ne_zero k) p1
     omega
theorem aKV (f b:Nat):hM f b % 2=1:=by unfold hM;omega
theorem aIO {f:Nat}{L:Int}{b x y:Nat}(h:Frc x y (hM f b) (hX f L b)):x ≠ 0:=fun z=>by
 have:=h.zero.1 z
 have:=aKV f b
 omega
def dpD (f:Nat) (L:Int) (m:Nat) (e:Int):Int:=max (max 0 ((ln m:Int) - ((f:Int)+1))) (L - e)
def dpU (m D:Nat) (more:Bool):Bool:=decide (D ≠ 0/\D<=64/\(2 ^ (D - 1)<m % 2 ^ D \/ (m % 2 ^ D=2 ^ (D - 1)/\(more=true \/ m / 2 ^ D % 2=1))))
def dpK (m D:Nat) (more:Bool):Nat:=m / 2 ^ D+(if dpU m D more then 1 else 0)
def ndA (f T:Nat) (L:Int) (m:Nat) (e:Int) (more:Bool):Nat × Bool :=
 if dpK m (dpD f L m e).toNat more=0 then (0,false) else
  match pk f (T:Int) L (dpK m (dpD f L m e).toNat more) (e+dpD f L m e) with
  | some b=>(b,false)
  | none=>(T * 2 ^ f,true)
theorem Eqv.mul {m M:Nat}{e E:Int}(h:Eqv m e M E) (c:Nat):Eqv (m * c) e (M * c) E:=by
 obtain ⟨K,a,b,h⟩:=h
 refine ⟨K,a,b,?_⟩
 unfold ev at h ⊢
 rw [Nat.mul_right_comm,h,Nat.mul_right_comm]
theorem Eqv.lift {m M:Nat}{e E:Int}(h:Eqv m e M E) (k:Nat):Eqv (m * 2 ^ k) e M (E+k):=by
 refine (h.mul (2 ^ k)).trans ?_
 have s:=(Eqv.shl M (E+k) k).symm
 rw [show E+(k:Int) - k=E from by omega] at s
 exact s
theorem aL3 {Y r ρ H:Nat}(hr:r<Y):(H * Y<ρ * Y+r ↔ (H<ρ \/ (ρ=H/\r ≠ 0)))/\(ρ * Y+r=H * Y ↔ (ρ=H/\r=0)):=by
 have low:ρ<H -> ρ * Y+r<H * Y:=fun h=>by
  have:=Nat.mul_le_mul_right Y (show ρ+1<=H from h)
  rw [Nat.add_mul,Nat.one_mul] at this
  omega
 have high:H<ρ -> H * Y<ρ * Y+r:=fun h=>by
  have:=Nat.mul_le_mul_right Y (show H+1<=ρ from h)
  rw [Nat.add_mul,Nat.one_mul] at this
  omega
 rcases Nat.lt_trichotomy ρ H with c | c | c
 . have:=low c
   constructor <;> constructor <;> intro h <;> omega
 . subst c
   constructor <;> constructor <;> intro h <;> omega
 . have:=high c
   constructor <;> constructor <;> intro h <;> omega
theorem aL2 {q D Y r:Nat}{more flag:Bool}(hD:D ≠ 0) (hr:r<Y) (hq:D<=64 \/ q<2 ^ 64) (hf:(r=0/\flag=more) \/ (more=false/\flag=decide (r ≠ 0))) :
 rQ more (q / 2 ^ D) (q % 2 ^ D * Y+r) (2 ^ D * Y)=dpK q D flag:=by
 have e2:2 ^ D=2 * 2 ^ (D - 1):=by
  rw [show D=D - 1+1 from by omega,Nat.pow_succ,Nat.add_sub_cancel];omega
 obtain ⟨u1,u2⟩:=aL3 (ρ:=q % 2 ^ D) (H:=2 ^ (D - 1)) hr
 have far:¬ D<=64 -> q % 2 ^ D<2 ^ (D - 1):=fun c=>by
  have h:q<2 ^ 64:=by omega
  have p:2 ^ 64<=2 ^ (D - 1):=Nat.pow_le_pow_right (by omega) (by omega)
  exact Nat.lt_of_le_of_lt (Nat.mod_le _ _) (by omega)
 have e3:2 ^ D * Y=2 * (2 ^ (D - 1) * Y):=by rw [e2,Nat.mul_assoc,show D - 1=D - 1 from rfl]
 have key:(2 ^ D * Y<2 * (q % 2 ^ D * Y+r) \/ 2 * (q % 2 ^ D * Y+r)=2 ^ D * Y/\(more=true \/ q / 2 ^ D % 2=1)) ↔ (D ≠ 0/\D<=64/\(2 ^ (D - 1)<q % 2 ^ D \/ q % 2 ^ D=2 ^ (D - 1)/\(flag=true \/ q / 2 ^ D % 2=1))):=by
  rw [e3]
  generalize q / 2 ^ D % 2=z at *
  generalize q % 2 ^ D * Y+r=A at *
  generalize 2 ^ (D - 1) * Y=C at *
  generalize q % 2 ^ D=ρ at *
  generalize 2 ^ (D - 1)=H at *
  clear e2 e3 hq
  rcases hf with ⟨h1,h2⟩ | ⟨h1,h2⟩
  . rw [h2]
    by_cases m:more=true
    . simp only [m,true_or,and_true]
      constructor <;> intro h <;> omega
    . rw [Bool.not_eq_true] at m
      simp only [m,Bool.false_eq_true,false_or]
      constructor <;> intro h <;> omega
  . rw [h1,h2]
    simp only [decide_eq_true_eq]
    constructor <;> intro h
    . simp only [Bool.false_eq_true,false_or] at h
      omega
    . simp only [Bool.false_eq_true,false_or]
      omega
 unfold rQ dpK rU dpU
 simp only [key]
theorem aH2 {f:Nat}(hf:0<f) {L:Int}{n d Y q r D:Nat}{e0 e:Int}{more flag:Bool}(d0:0<d) (hD:D ≠ 0) (hr:r<Y) (hq:D<=64 \/ q<2 ^ 64) (hfl:(r=0/\flag=more) \/ (more=false/\flag=decide (r ≠ 0)))
 (g:Good f L (q / 2 ^ D) (e+D)) (h:Eqv (n * Y) e0 ((q * Y+r) * d) e):RD f L n d e0 more (ly f L (dpK q D flag) (e+D)):=by
 rw [<- aL2 hD hr hq hfl]
 have lt:q % 2 ^ D * Y+r<2 ^ D * Y:=by
  have a:q % 2 ^ D<2 ^ D:=Nat.mod_lt _ (Nat.two_pow_pos D)
  have:=Nat.mul_le_mul_right Y (show q % 2 ^ D+1<=2 ^ D from a)
  rw [Nat.add_mul,Nat.one_mul] at this
  omega
 refine aAa hf more d0 lt g ?_
 have e1:q / 2 ^ D * (2 ^ D * Y)+(q % 2 ^ D * Y+r)=q * Y+r:=by
  rw [<- Nat.mul_assoc,<- Nat.add_assoc,<- Nat.add_mul,Nat.mul_comm (q / 2 ^ D),Nat.div_add_mod]
 rw [e1,show n * (2 ^ D * Y)=n * Y * 2 ^ D from by rw [Nat.mul_comm (2 ^ D) Y,Nat.mul_assoc]]
 exact h.lift D
theorem aK6 {m D:Nat}:m / 2 ^ D<2 ^ (ln m - D):=by
 rw [Nat.div_lt_iff_lt_mul (Nat.two_pow_pos D),<- Nat.pow_add]
 exact Nat.lt_of_lt_of_le (nX m) (Nat.pow_le_pow_right (by omega) (by omega))
theorem aBm {f:Nat}{L:Int}{m:Nat}{e:Int}(m0:m ≠ 0) (h:(f:Int)+1<ln m \/ e<L):Good f L (m / 2 ^ (dpD f L m e).toNat) (e+(dpD f L m e).toNat):=by
 have l1:=qO m0
 have eD:((dpD f L m e).toNat:Int)=dpD f L m e:=by unfold dpD;omega
 have hD:dpD f L m e=(ln m:Int) - ((f:Int)+1)/\L - e<=dpD f L m e \/ dpD f L m e=L - e/\(ln m:Int) - ((f:Int)+1)<=dpD f L m e:=by unfold dpD;omega
 generalize (dpD f L m e).toNat=D at *
 generalize dpD f L m e=I at *
 subst eD
 refine ⟨Nat.lt_of_lt_of_le aK6 (Nat.pow_le_pow_right (by omega) (by omega)),by omega,?_⟩
 rcases hD with ⟨a,b⟩ | ⟨a,b⟩
 . left
   rw [Nat.le_div_iff_mul_le (Nat.two_pow_pos D),<- Nat.pow_add]
   have:=kC m0
   rw [show f+D=ln m - 1 from by omega]
   exact this
 . right;omega
theorem aKF {m D k:Nat}{more:Bool}(h:m / 2 ^ D<2 ^ k):dpK m D more<=2 ^ k:=by
 unfold dpK
 split <;> omega
theorem aKE {m D:Nat}{more:Bool}:m / 2 ^ D<=dpK m D more:=by
 unfold dpK
 split <;> omega
theorem aCn {f:Nat}{L:Int}:ly f L 0 L=0:=by
 unfold ly
 rw [Int.sub_self];simp
theorem aH3 {f T:Nat}(hf:0<f) (hT:2<=T) {L:Int}{n d m:Nat}{e0 e:Int}{more flag:Bool}(n0:n ≠ 0) (d0:d ≠ 0) (g:Good f L (m / 2 ^ (dpD f L m e).toNat) (e+(dpD f L m e).toNat)) (h:RD f L n d e0 more (ly f L (dpK m (dpD f L m e).toNat flag) (e+(dpD f L m e).toNat))) :
 ndA f T L m e flag=rdA f T L n d e0 more:=by
 rw [bU hf n0 d0 h]
 have eD:((dpD f L m e).toNat:Int)=dpD f L m e:=by unfold dpD;omega
 have le:=aKF (more:=flag) g.1
 have ge:=aKE (m:=m) (D:=(dpD f L m e).toNat) (more:=flag)
 unfold ndA
 by_cases z:dpK m (dpD f L m e).toNat flag=0
 . rw [if_pos z,z]
   have eL:e+((dpD f L m e).toNat:Int)=L:=by
    rcases g.2.2 with c | c
    . have:=Nat.two_pow_pos f
      omega
    . exact c
   rw [eL,aCn,if_pos (Nat.mul_pos (by omega) (Nat.two_pow_pos f))]
 . rw [if_neg z,show e+dpD f L m e=e+((dpD f L m e).toNat:Int) from by rw [eD]]
   have k3:2 ^ f<=dpK m (dpD f L m e).toNat flag \/ e+((dpD f L m e).toNat:Int)=L:=by
    rcases g.2.2 with c | c
    . left;omega
    . right;exact c
   rw [wK hT z le g.2.1 k3]
   generalize ly f L (dpK m (dpD f L m e).toNat flag) (e+((dpD f L m e).toNat:Int))=b
   by_cases c:b<T * 2 ^ f
   . rw [if_pos c,if_pos c]
   . rw [if_neg c,if_neg c]
theorem aBl {f:Nat}{L:Int}{m:Nat}{e:Int}(h:(f:Int)+1<ln m \/ e<L):(dpD f L m e).toNat ≠ 0:=by unfold dpD;omega
theorem zH {f T:Nat}(hf:0<f) (hT:2<=T) {L:Int}{m:Nat}{e:Int}(more:Bool) (hm:m<2 ^ 64):ndA f T L m e more=rdA f T L m 1 e more:=by
 by_cases m0:m=0
 . subst m0
   have z:dpK 0 (dpD f L 0 e).toNat more=0:=by
    unfold dpK dpU
    rw [Nat.zero_div,Nat.zero_mod,if_neg]
    rw [decide_eq_true_eq]
    rintro ⟨_,_,c | ⟨c,_⟩⟩
    . exact absurd c (Nat.not_lt_zero _)
    . have:=Nat.two_pow_pos ((dpD f L 0 e).toNat - 1);omega
   unfold ndA rdA
   rw [if_pos z,if_pos rfl]
 by_cases h:(f:Int)+1<ln m \/ e<L
 . have g:=aBm m0 h
   refine aH3 hf hT m0 (by omega) g (aH2 (Y:=1) (r:=0) hf (by omega) (aBl h) (by omega) (.inr hm) (.inl ⟨rfl,rfl⟩) g ?_)
   rw [Nat.mul_one,Nat.add_zero,Nat.mul_one]
   exact Eqv.rfl' m e
 . have h1:ln m<=f+1:=by omega
   have h2:L<=e:=by omega
   have D0:dpD f L m e=0:=by unfold dpD;omega
   have K0:dpK m 0 more=m:=by
    unfold dpK dpU
    rw [if_neg (by simp),Nat.pow_zero,Nat.div_one];rfl
   have hk:∃ k:Nat,L<=e - k/\ln m+k<=f+1/\(ln m+k=f+1 \/ e - (k:Int)=L):=by
    by_cases c:e - ((f+1 - ln m:Nat):Int)<L
    . exact ⟨(e - L).toNat,by omega,by omega,by omega⟩
    . exact ⟨f+1 - ln m,by omega,by omega,by omega⟩
   obtain ⟨k,k1,k2,k3⟩:=hk
   have l:=mH m0 k
   have n0:m * 2 ^ k ≠ 0:=Nat.mul_ne_zero m0 (Nat.ne_of_gt (Nat.two_pow_pos k))
   have g:Good f L (m * 2 ^ k) (e - k):=by
    refine ⟨(aE _ _).1 (by omega),k1,?_⟩
    rcases k3 with c | c
    . left
      have:=kC n0
      rw [l,c] at this
      exact this
    . right;exact c
   have q:=Eqv.shl m e k
   have r:RD f L m 1 e more (ly f L (m * 2 ^ k) (e - k)):=by
    obtain ⟨p1,p2⟩:=kE g
    refine aCZ more (by omega) ?_
    rw [p1,p2]
    obtain ⟨K,a,b,c⟩:=q
    exact ⟨K,a,b,by rw [Nat.one_mul];exact c⟩
   rw [bU hf m0 (by omega) r]
   unfold ndA
   rw [D0,show (0:Int).toNat=0 from rfl,K0,if_neg m0,Int.add_zero,gP m0 q,wK hT n0 (Nat.le_of_lt g.1) g.2.1 g.2.2]
   generalize ly f L (m * 2 ^ k) (e - k)=b
   by_cases c:b<T * 2 ^ f
   . rw [if_pos c,if_pos c]
   . rw [if_neg c,if_neg c]
theorem aGY {f T:Nat}(hf:0<f) (hf2:f<=52) (hT:2<=T) {L:Int}{n d Y q r:Nat}{e0 e:Int}(n0:n ≠ 0) (d0:d ≠ 0) (hr:r<Y) (hq1:2 ^ 62<=q) (hq2:q<2 ^ 64) (h:Eqv (n * Y) e0 ((q * Y+r) * d) e) :
 ndA f T L q e (decide (r ≠ 0))=rdA f T L n d e0 false:=by
 have q0:q ≠ 0:=by omega
 have l:62<ln q:=by
  apply Nat.lt_of_not_le
  intro c
  have:=(aE q 62).1 c
  omega
 have c:(f:Int)+1<ln q \/ e<L:=.inl (by omega)
 have g:=aBm (L:=L) (e:=e) q0 c
 exact aH3 hf hT n0 d0 g (aH2 hf (Nat.pos_of_ne_zero d0) (aBl c) hr (.inr hq2) (.inr ⟨rfl,rfl⟩) g h)
end Go.Proofs.YtejgpbhionadbaaGreatDoor
namespace Go.Proofs.YtejgpbhionadbaaGreatDoor
open Go
def Sn (s:Int):Prop:=s ≠ 32/\s ≠ 64
def mg (g b:Nat):Nat:=b % g
def ng (g b:Nat):Bool:=decide (g<=b)
def sgd (g:Nat) (c:Bool) (m:Nat):Nat:=if c then m+g else m
def cl (n m:Nat):Int:=if m=0 then 1 else if m<n then 2 else if m=n then 3 else 4
def uN (g n b:Nat):Bool:=if cl n (mg g b)=4 then false else ng g b
def uM (n f m:Nat):Nat:=if cl n m=2 then mt f m else 0
def uE (n f:Nat) (L:Int) (m:Nat):Int:=if cl n m=2 then xp f L m else 0
theorem aIo (n:Nat):cl n 0=1:=if_pos rfl
theorem aIn {n m:Nat}(h0:m ≠ 0) (h:m<n):cl n m=2:=by unfold cl;rw [if_neg h0,if_pos h]
theorem aKu {n:Nat}(h0:n ≠ 0):cl n n=3:=by unfold cl;rw [if_neg h0,if_neg (Nat.lt_irrefl n),if_pos rfl]
theorem aKv {n m:Nat}(h:n<m):cl n m=4:=by unfold cl;rw [if_neg (by omega),if_neg (by omega),if_neg (by omega)]
theorem gX (n m:Nat):(m=0/\cl n m=1) \/ (m ≠ 0/\m<n/\cl n m=2) \/ (m ≠ 0/\m=n/\cl n m=3) \/ (n<m/\cl n m=4):=by
 by_cases h0:m=0
 . left;exact ⟨h0,by rw [h0,aIo]⟩
 . by_cases h1:m<n
   . right;left;exact ⟨h0,h1,aIn h0 h1⟩
   . by_cases h2:m=n
     . right;right;left;exact ⟨h0,h2,by rw [h2];exact aKu (by omega)⟩
     . right;right;right;exact ⟨by omega,aKv (by omega)⟩
theorem tG (b:Nat) (h:b<4294967296):bits BinOp.andNot IntKind.u64 (b:Int) 2147483648=((mg 2147483648 b:Nat):Int):=by
 have e:=u64_andNot_nat b 2147483648 (by omega) (by omega)
 rw [show ((2147483648:Nat):Int)=2147483648 from rfl] at e
 rw [e]
 congr 1
 have a:(b &&& (18446744073709551615 - 2147483648)) % 2 ^ 31=b % 2 ^ 31:=by
  rw [Nat.and_mod_two_pow,show (18446744073709551615 - 2147483648) % 2 ^ 31=2 ^ 31 - 1 by decide,Nat.and_two_pow_sub_one_eq_mod,Nat.mod_mod]
 have d:(b &&& (18446744073709551615 - 2147483648)) / 2 ^ 31=0:=by
  rw [Nat.and_div_two_pow,show (18446744073709551615 - 2147483648) / 2 ^ 31=8589934590 by decide]
  have c:b / 2 ^ 31=0 \/ b / 2 ^ 31=1:=by omega
  rcases c with c | c <;> rw [c] <;> decide
 unfold mg
 generalize b &&& (18446744073709551615 - 2147483648)=q at a d
 omega
theorem tH (b:Nat) (h:b<18446744073709551616):bits BinOp.andNot IntKind.u64 (b:Int) 9223372036854775808=((mg 9223372036854775808 b:Nat):Int):=by
 have e:=u64_andNot_nat b 9223372036854775808 (by omega) (by omega)
 rw [show ((9223372036854775808:Nat):Int)=9223372036854775808 from rfl] at e
 rw [e]
 congr 1
 exact Nat.and_two_pow_sub_one_eq_mod b 63
theorem aAJ (b:Nat) (h:b<4294967296):bits BinOp.and IntKind.u64 (b:Int) 2147483648=((if ng 2147483648 b then 2147483648 else 0:Nat):Int):=by
 have e:=u64_and_nat b 2147483648 (by omega) (by omega)
 rw [show ((2147483648:Nat):Int)=2147483648 from rfl] at e
 rw [e]
 congr 1
 rw [show 2147483648=2 ^ 31 from rfl,nat_bit 31 b]
 unfold ng
 by_cases c:2 ^ 31<=b
 . rw [decide_eq_true c,if_pos rfl,show b / 2 ^ 31=1 by omega]
 . rw [decide_eq_false c,show b / 2 ^ 31=0 by omega];rfl
theorem aAK (b:Nat) (h:b<18446744073709551616):bits BinOp.and IntKind.u64 (b:Int) 9223372036854775808=((if ng 9223372036854775808 b then 9223372036854775808 else 0:Nat):Int):=by
 have e:=u64_and_nat b 9223372036854775808 (by omega) (by omega)
 rw [show ((9223372036854775808:Nat):Int)=9223372036854775808 from rfl] at e
 rw [e]
 congr 1
 rw [show 9223372036854775808=2 ^ 63 from rfl,nat_bit 63 b]
 unfold ng
 by_cases c:2 ^ 63<=b
 . rw [decide_eq_true c,if_pos rfl,show b / 2 ^ 63=1 by omega]
 . rw [decide_eq_false c,show b / 2 ^ 63=0 by omega];rfl
theorem qV (k x:Nat) (hk:2 ^ k<18446744073709551616) (h:x<2 ^ k):bits BinOp.or IntKind.u64 (x:Int) ((2 ^ k:Nat):Int)=((x+2 ^ k:Nat):Int):=by
 rw [u64_or_nat x (2 ^ k) (by omega) hk]
 congr 1
 rw [Nat.or_comm,nat_join k (2 ^ k) x (Nat.mod_self _) h,Nat.add_comm]
theorem kL {m:Nat}(h:m<2147483648):bits BinOp.or IntKind.u64 (m:Int) 2147483648=((m+2147483648:Nat):Int):=qV 31 m (by decide) h
theorem kM {m:Nat}(h:m<9223372036854775808):bits BinOp.or IntKind.u64 (m:Int) 9223372036854775808=((m+9223372036854775808:Nat):Int):=qV 63 m (by decide) h
theorem aEK {m:Nat}(h:m<8388608):bits BinOp.or IntKind.u64 (m:Int) 8388608=((m+8388608:Nat):Int):=qV 23 m (by decide) h
theorem aEL {m:Nat}(h:m<4503599627370496):bits BinOp.or IntKind.u64 (m:Int) 4503599627370496=((m+4503599627370496:Nat):Int):=qV 52 m (by decide) h
theorem oM {m:Nat}(h:m<18446744073709551616):bits BinOp.and IntKind.u64 (m:Int) 8388607=((m % 8388608:Nat):Int):=by
 have e:=u64_and_nat m 8388607 h (by decide)
 rw [show ((8388607:Nat):Int)=8388607 from rfl] at e
 rw [e]
 congr 1
 exact Nat.and_two_pow_sub_one_eq_mod m 23
theorem oN {m:Nat}(h:m<18446744073709551616):bits BinOp.and IntKind.u64 (m:Int) 4503599627370495=((m % 4503599627370496:Nat):Int):=by
 have e:=u64_and_nat m 4503599627370495 h (by decide)
 rw [show ((4503599627370495:Nat):Int)=4503599627370495 from rfl] at e
 rw [e]
 congr 1
 exact Nat.and_two_pow_sub_one_eq_mod m 52
theorem nZ {g:Nat}(h:0<g) (b:Nat):mg g b<g:=Nat.mod_lt b h
theorem aMa (m:Nat):mt 23 m=if m / 8388608=0 then m else m % 8388608+8388608:=rfl
theorem aMb (m:Nat):mt 52 m=if m / 4503599627370496=0 then m else m % 4503599627370496+4503599627370496:=rfl
theorem aMw (m:Nat):xp 23 (-149) m=if m / 8388608=0 then -149 else -149+((m / 8388608:Nat):Int) - 1:=rfl
theorem aMx (m:Nat):xp 52 (-1074) m=if m / 4503599627370496=0 then -1074 else -1074+((m / 4503599627370496:Nat):Int) - 1:=rfl
end Go.Proofs.YtejgpbhionadbaaGreatDoor
namespace Go.Proofs.YtejgpbhionadbaaGreatDoor
def UpT (f:Nat) (L:Int) (n d:Nat) (e t:Int) (b:Nat):Prop :=
 vL n d e (hM f b) (hX f L b) \/ (vE n d e (hM f b) (hX f L b)/\(t<0 \/ (t=0/\b % 2=0)))
def RDT (f:Nat) (L:Int) (n d:Nat) (e t:Int) (b:Nat):Prop:=UpT f L n d e t b/\(b=0 \/ ¬ UpT f L n d e t (b - 1))
theorem wS {f:Nat}{L:Int}{n d:Nat}{e:Int}{b:Nat}:UpT f L n d e 0 b ↔ Up f L n d e false b:=by
 unfold UpT Up
 constructor
 . rintro (h | ⟨h,k | k⟩)
   . exact .inl h
   . omega
   . exact .inr ⟨h,k.2,rfl⟩
 . rintro (h | ⟨h,k,_⟩)
   . exact .inl h
   . exact .inr ⟨h,.inr ⟨rfl,k⟩⟩
theorem wR {f:Nat}{L:Int}{n d:Nat}{e t:Int}{b:Nat}(ht:0<t):UpT f L n d e t b ↔ Up f L n d e true b:=by
 unfold UpT Up
 constructor
 . rintro (h | ⟨h,k | k⟩)
   . exact .inl h
   . omega
   . omega
 . rintro (h | ⟨_,_,k⟩)
   . exact .inl h
   . cases k
theorem aFW {f:Nat}{L:Int}{n d:Nat}{e:Int}{b:Nat}:RDT f L n d e 0 b ↔ RD f L n d e false b:=by
 unfold RDT RD
 rw [wS,wS]
theorem aFV {f:Nat}{L:Int}{n d:Nat}{e t:Int}{b:Nat}(ht:0<t):RDT f L n d e t b ↔ RD f L n d e true b:=by
 unfold RDT RD
 rw [wR ht,wR ht]
theorem UpT.succ {f:Nat}{L:Int}{n d:Nat}{e t:Int}{b:Nat}(d0:0<d) (h:UpT f L n d e t b):UpT f L n d e t (b+1):=by
 rcases h with h | ⟨h,_⟩
 . exact .inl (h.up (iQ f L b).le)
 . exact .inl (h.up d0 (iQ f L b))
theorem UpT.mono {f:Nat}{L:Int}{n d:Nat}{e t:Int}{b b':Nat}(d0:0<d) (h:UpT f L n d e t b) (k:b<=b'):UpT f L n d e t b':=by
 obtain ⟨j,rfl⟩:∃ j,b'=b+j:=⟨b' - b,by omega⟩
 clear k
 induction j with
 | zero=>exact h
 | succ j ih=>exact ih.succ d0
theorem RDT.le {f:Nat}{L:Int}{n d:Nat}{e t:Int}{b b':Nat}(d0:0<d) (h:RDT f L n d e t b) (k:UpT f L n d e t b'):b<=b':=by
 rcases h.2 with z | z
 . omega
 . rcases Nat.lt_or_ge b' b with c | c
   . exact absurd (k.mono d0 (by omega)) z
   . exact c
theorem RDT.uniq {f:Nat}{L:Int}{n d:Nat}{e t:Int}{b b':Nat}(d0:0<d) (h:RDT f L n d e t b) (k:RDT f L n d e t b'):b=b' :=
 Nat.le_antisymm (h.le d0 k.1) (k.le d0 h.1)
theorem aBc {f:Nat}{L:Int}{n d n' d':Nat}{e e' t:Int}(d0:0<d) (d0':0<d') (h:Eqv (n * d') e (n' * d) e') (b:Nat):UpT f L n d e t b ↔ UpT f L n' d' e' t b:=by
 unfold UpT
 rw [eX d0 d0' h,rM d0 d0' h]
theorem aBb {f:Nat}{L:Int}{n d n' d':Nat}{e e' t:Int}(d0:0<d) (d0':0<d') (h:Eqv (n * d') e (n' * d) e') (b:Nat):RDT f L n d e t b ↔ RDT f L n' d' e' t b:=by
 unfold RDT
 rw [aBc d0 d0' h,aBc d0 d0' h]
def fLe (n d:Nat) (e:Int) (n' d':Nat) (e':Int):Prop:=∃ K,K<=e/\K<=e'/\ev K n e * d'<=ev K n' e' * d
def fLt (n d:Nat) (e:Int) (n' d':Nat) (e':Int):Prop:=∃ K,K<=e/\K<=e'/\ev K n e * d'<ev K n' e' * d
theorem fLe.at {n d n' d':Nat}{e e':Int}(h:fLe n d e n' d' e') (K:Int) (h1:K<=e) (h2:K<=e'):ev K n e * d'<=ev K n' e' * d:=by
 obtain ⟨K0,a,b,q⟩:=h
 rcases Int.le_total K K0 with c | c
 . rw [aK n c a,aK n' c b,Nat.mul_right_comm,Nat.mul_right_comm (ev K0 n' e')]
   exact Nat.mul_le_mul_right _ q
 . rw [aK n c h1,aK n' c h2,Nat.mul_right_comm,Nat.mul_right_comm (ev K n' e')] at q
   exact Nat.le_of_mul_le_mul_right q (Nat.two_pow_pos _)
theorem fLt.at {n d n' d':Nat}{e e':Int}(h:fLt n d e n' d' e') (K:Int) (h1:K<=e) (h2:K<=e'):ev K n e * d'<ev K n' e' * d:=by
 obtain ⟨K0,a,b,q⟩:=h
 rcases Int.le_total K K0 with c | c
 . rw [aK n c a,aK n' c b,Nat.mul_right_comm,Nat.mul_right_comm (ev K0 n' e')]
   exact Nat.mul_lt_mul_of_pos_right q (Nat.two_pow_pos _)
 . rw [aK n c h1,aK n' c h2,Nat.mul_right_comm,Nat.mul_right_comm (ev K n' e')] at q
   exact Nat.lt_of_mul_lt_mul_right q
theorem fLt.le {n d n' d':Nat}{e e':Int}(h:fLt n d e n' d' e'):fLe n d e n' d' e':=by
 obtain ⟨K,a,b,q⟩:=h
 exact ⟨K,a,b,Nat.le_of_lt q⟩
theorem fLe.lo {n d n' d' m:Nat}{e e' x:Int}(d0:0<d) (h:fLe n d e n' d' e') (k:vL n' d' e' m x):vL n d e m x:=by
 obtain ⟨K,hK⟩:∃ K,K=min e (min e' x):=⟨_,rfl⟩
 refine ⟨K,by omega,by omega,?_⟩
 have p:=h.at K (by omega) (by omega)
 have q:=k.at K (by omega) (by omega)
 have r:=Nat.mul_lt_mul_of_pos_right q d0
 have s:ev K n e * d'<d * ev K m x * d':=by
  refine Nat.lt_of_le_of_lt p (Nat.lt_of_lt_of_le r (Nat.le_of_eq ?_))
  generalize ev K m x=z
  rw [Nat.mul_comm d' z,Nat.mul_right_comm,Nat.mul_comm z d]
 exact Nat.lt_of_mul_lt_mul_right s
theorem fLe.ee {n d n' d' m:Nat}{e e' x:Int}(d0':0<d') (h:fLe n d e n' d' e') (k:vE n' d' e' m x):vL n d e m x \/ vE n d e m x:=by
 obtain ⟨K,hK⟩:∃ K,K=min e (min e' x):=⟨_,rfl⟩
 have p:=h.at K (by omega) (by omega)
 have q:=k.at K (by omega) (by omega)
 have s:ev K n e * d'<=d * ev K m x * d':=by
  refine Nat.le_trans p (Nat.le_of_eq ?_)
  rw [q]
  generalize ev K m x=z
  rw [Nat.mul_comm d' z,Nat.mul_right_comm,Nat.mul_comm z d]
 have s2:=Nat.le_of_mul_le_mul_right s d0'
 rcases Nat.lt_or_ge (ev K n e) (d * ev K m x) with c | c
 . exact .inl ⟨K,by omega,by omega,c⟩
 . exact .inr ⟨K,by omega,by omega,Nat.le_antisymm s2 c⟩
theorem fLt.ee {n d n' d' m:Nat}{e e' x:Int}(h:fLt n d e n' d' e') (k:vE n' d' e' m x):vL n d e m x:=by
 obtain ⟨K,hK⟩:∃ K,K=min e (min e' x):=⟨_,rfl⟩
 have p:=h.at K (by omega) (by omega)
 have q:=k.at K (by omega) (by omega)
 have s:ev K n e * d'<d * ev K m x * d':=by
  refine Nat.lt_of_lt_of_le p (Nat.le_of_eq ?_)
  rw [q]
  generalize ev K m x=z
  rw [Nat.mul_comm d' z,Nat.mul_right_comm,Nat.mul_comm z d]
 exact ⟨K,by omega,by omega,Nat.lt_of_mul_lt_mul_right s⟩
theorem UpT.less {f:Nat}{L:Int}{n d n' d':Nat}{e e' t t':Int}{b:Nat}(d0:0<d) (d0':0<d') (h:fLe n d e n' d' e') (ht:t<=t' \/ fLt n d e n' d' e') (k:UpT f L n' d' e' t' b):UpT f L n d e t b:=by
 rcases k with k | ⟨k,c⟩
 . exact .inl (h.lo d0 k)
 . rcases ht with ht | ht
   . rcases h.ee d0' k with v | v
     . exact .inl v
     . refine .inr ⟨v,?_⟩
       rcases c with c | c
       . exact .inl (by omega)
       . rcases Int.lt_or_le t 0 with z | z
         . exact .inl z
         . exact .inr ⟨by omega,c.2⟩
   . exact .inl (ht.ee k)
theorem RDT.rise {f:Nat}{L:Int}{n d n' d':Nat}{e e' t t':Int}{b b':Nat}(d0:0<d) (d0':0<d') (h:fLe n d e n' d' e') (ht:t<=t' \/ fLt n d e n' d' e') (k:RDT f L n d e t b) (k':RDT f L n' d' e' t' b'):b<=b' :=
 k.le d0 (UpT.less d0 d0' h ht k'.1)
def rUT (t:Int) (q r y:Nat):Bool:=decide (y<2 * r \/ (2 * r=y/\(0<t \/ (t=0/\q % 2=1))))
def rQT (t:Int) (q r y:Nat):Nat:=q+(if rUT t q r y then 1 else 0)
theorem aBH {f:Nat}(hf:0<f) {L:Int}{n d y q r:Nat}{e l:Int}(t:Int) (d0:0<d) (hr:r<y) (g:Good f L q l) (h:Eqv (n * y) e ((q * y+r) * d) l):RDT f L n d e t (ly f L (rQT t q r y) l):=by
 have y0:0<y:=by omega
 obtain ⟨e1,e2⟩:=kE g
 obtain ⟨i1,i2⟩:=aAb d0 y0 h
 have ev2:=aBu hf L q l
 have up:UpT f L n d e t (ly f L q l) ↔ rUT t q r y=false:=by
  unfold UpT hM hX
  rw [e1,e2,i1,i2,ev2]
  unfold rUT
  rw [decide_eq_false_iff_not]
  have c:q % 2=0 \/ q % 2=1:=by omega
  omega
 unfold rQT
 by_cases u:rUT t q r y=true
 . rw [if_pos u,aBv]
   have k:vL n d e (q+1) l:=by
    rw [eX (m:=q+1) (x:=l) d0 y0 h]
    refine ⟨l,Int.le_refl _,Int.le_refl _,?_⟩
    rw [aB,aB,Nat.mul_add,Nat.mul_one,Nat.mul_comm y q]
    omega
   have s:=sN f L (ly f L q l)
   rw [e1,e2] at s
   refine ⟨.inl ((k.up s.lE).up (iM f L _).le),.inr ?_⟩
   rw [Nat.add_sub_cancel]
   intro x
   rw [up.1 x] at u
   cases u
 . rw [if_neg u,Nat.add_zero]
   refine ⟨up.2 (Bool.eq_false_iff.2 u),?_⟩
   by_cases z:ly f L q l=0
   . exact .inl z
   . right
     intro x
     obtain ⟨c,hc⟩:∃ c,ly f L q l=c+1:=⟨ly f L q l - 1,by omega⟩
     rw [hc,Nat.add_sub_cancel] at x
     have hv:=iB f L c
     rw [<- hc,e1,e2] at hv
     have v:vL n d e q l:=by
      rcases x with x | ⟨x,_⟩
      . exact x.up hv.le
      . exact x.up d0 hv
     rw [eX (m:=q) (x:=l) d0 y0 h] at v
     have:=v.at l (Int.le_refl _) (Int.le_refl _)
     rw [aB,aB,Nat.mul_comm y q] at this
     omega
theorem rF {f:Nat}(hf:0<f) {L:Int}{n d:Nat}{e:Int}(t:Int) (n0:n ≠ 0) (d0:d ≠ 0):∃ b,RDT f L n d e t b:=by
 obtain ⟨g,h⟩:=kS (f:=f) (L:=L) (e:=e) d0 (yE n0 d0) rfl
 have yp:0<d * 2 ^ (max (fE n d+e - f) L - e).toNat:=Nat.mul_pos (Nat.pos_of_ne_zero d0) (Nat.two_pow_pos _)
 refine ⟨_,aBH (r:=n * 2 ^ (e - max (fE n d+e - f) L).toNat % (d * 2 ^ (max (fE n d+e - f) L - e).toNat)) hf t (Nat.pos_of_ne_zero d0) (Nat.mod_lt _ yp) g ?_⟩
 rw [Nat.div_add_mod']
 exact h
def pN (e:Int):Nat:=10 ^ e.toNat
def pD (e:Int):Nat:=10 ^ (-e).toNat
theorem zK (e:Int):0<pN e:=Nat.pow_pos (by omega)
theorem aP (e:Int):0<pD e:=Nat.pow_pos (by omega)
def Pw (e:Int) (M:Nat) (E:Int):Prop:=2 ^ 127<=M/\M<2 ^ 128/\¬ vL (pN e) (pD e) 0 M E/\vL (pN e) (pD e) 0 (M+1) E
theorem aAD (k:Nat):10 ^ k=2 ^ k * 5 ^ k:=by rw [<- Nat.mul_pow]
theorem zZ {a b c d M X Y:Nat}{e s:Int}(he:e=(a:Int) - (b:Int)) (hs:s=(c:Int) - (d:Int)) (ha:pN e=2 ^ a * X) (hb:pD e=2 ^ b * Y) :
 (vL (pN e) (pD e) 0 M (e - s) ↔ X * 2 ^ c<M * (Y * 2 ^ d))/\(vE (pN e) (pD e) 0 M (e - s) ↔ X * 2 ^ c=M * (Y * 2 ^ d)):=by
 have l:ev (-((b:Int)+c)) (pN e) 0=2 ^ (a+b) * (X * 2 ^ c):=by
  unfold ev
  rw [ha,show (0 - -((b:Int)+(c:Int))).toNat=b+c from by omega,Nat.pow_add,Nat.pow_add]
  generalize 2 ^ a=A
  generalize 2 ^ b=D
  generalize 2 ^ c=G
  rw [Nat.mul_assoc,Nat.mul_assoc A D,Nat.mul_left_comm X D G]
 have r:pD e * ev (-((b:Int)+c)) M (e - s)=2 ^ (a+b) * (M * (Y * 2 ^ d)):=by
  unfold ev
  rw [hb,show (e - s - -((b:Int)+(c:Int))).toNat=a+d from by omega,Nat.pow_add,Nat.pow_add]
  generalize 2 ^ a=A
  generalize 2 ^ b=D
  generalize 2 ^ d=G
  rw [Nat.mul_comm A D,Nat.mul_assoc D Y,Nat.mul_assoc D A]
  congr 1
  rw [Nat.mul_left_comm Y M,Nat.mul_left_comm Y A,Nat.mul_left_comm M A]
 have p:=Nat.two_pow_pos (a+b)
 have k1:-((b:Int)+c)<=0:=by omega
 have k2:-((b:Int)+c)<=e - s:=by omega
 refine ⟨⟨fun h=>?_,fun h=>⟨_,k1,k2,?_⟩⟩,⟨fun h=>?_,fun h=>⟨_,k1,k2,?_⟩⟩⟩
 . have q:=h.at _ k1 k2
   rw [l,r] at q
   exact Nat.lt_of_mul_lt_mul_left q
 . rw [l,r]
   exact Nat.mul_lt_mul_of_pos_left h p
 . have q:=h.at _ k1 k2
   rw [l,r] at q
   exact Nat.eq_of_mul_eq_mul_left p q
 . rw [l,r,h]
theorem aBz (e:Int):pN e=2 ^ e.toNat * 5 ^ e.toNat:=aAD _
theorem aBy (e:Int):pD e=2 ^ (-e).toNat * 5 ^ (-e).toNat:=aAD _
theorem zY {e s:Int}{M r:Nat}(h1:2 ^ 127<=M) (h2:M<2 ^ 128) (hr:r<5 ^ (-e).toNat * 2 ^ (-s).toNat) (h:5 ^ e.toNat * 2 ^ s.toNat=M * (5 ^ (-e).toNat * 2 ^ (-s).toNat)+r) :
 Pw e M (e - s)/\(vE (pN e) (pD e) 0 M (e - s) ↔ r=0):=by
 have k:=fun A=>zZ (a:=e.toNat) (b:=(-e).toNat) (c:=s.toNat) (d:=(-s).toNat) (M:=A) (e:=e) (s:=s) (by omega) (by omega) (aBz e) (aBy e)
 refine ⟨⟨h1,h2,?_,?_⟩,?_⟩
 . rw [(k M).1,h];omega
 . rw [(k (M+1)).1,h,Nat.add_mul,Nat.one_mul];omega
 . rw [(k M).2,h];omega
theorem pP       : ∀ c : Nat, 2 ^ c % 5 ≠ 0
  | 0 => by decide
  | c + 1 => by
    have i := pP       c
    rw [Nat.pow_succ]
    omega
theorem yH       : ∀ a : Nat, 5 ^ a % 2 = 1
  | 0 => by decide
  | a + 1 => by
    have i := yH       a
    rw [Nat.pow_succ]
    omega
theorem kR {e:Int}{M:Nat}{E:Int}(h:Pw e M E):vE (pN e) (pD e) 0 M E ↔ (0<=e/\e<=55):=by
 obtain ⟨s,hs⟩:∃ s,s=e - E:=⟨_,rfl⟩
 have eE:E=e - s:=by omega
 have k:=fun A=>zZ (a:=e.toNat) (b:=(-e).toNat) (c:=s.toNat) (d:=(-s).toNat) (M:=A) (e:=e) (s:=s) (by omega) (by omega) (aBz e) (aBy e)
 obtain ⟨h1,h2,h3,h4⟩:=h
 rw [eE] at h3 h4 ⊢
 rw [(k M).1] at h3
 rw [(k (M+1)).1] at h4
 rw [(k M).2]
 by_cases c:0<=e
 . rw [show (-e).toNat=0 from by omega,Nat.pow_zero,Nat.one_mul] at h3 h4 ⊢
   by_cases c2:0<=s
   . rw [show (-s).toNat=0 from by omega,Nat.pow_zero,Nat.mul_one] at h3 h4 ⊢
     refine ⟨fun _=>⟨c,?_⟩,fun _=>by omega⟩
     apply Int.not_lt.1
     intro c3
     have a:5 ^ 56<=5 ^ e.toNat:=Nat.pow_le_pow_right (by omega) (by omega)
     have b:=Nat.le_mul_of_pos_right (5 ^ e.toNat) (Nat.two_pow_pos s.toNat)
     have d:2 ^ 128<=5 ^ 56:=by decide
     omega
   . rw [show s.toNat=0 from by omega,Nat.pow_zero,Nat.mul_one] at h3 h4 ⊢
     have o:=yH e.toNat
     have t:2 ^ (-s).toNat=2 * 2 ^ ((-s).toNat - 1):=by
      rw [show (-s).toNat=(-s).toNat - 1+1 from by omega,Nat.pow_succ,Nat.add_sub_cancel];omega
     have tp:=Nat.two_pow_pos ((-s).toNat - 1)
     rw [t] at h3 h4 ⊢
     generalize 2 ^ ((-s).toNat - 1)=z at *
     refine ⟨fun q=>?_,fun q=>?_⟩
     . exfalso
       rw [q,show M * (2 * z)=2 * (M * z) from Nat.mul_left_comm _ _ _] at o
       omega
     . exfalso
       have a:5 ^ e.toNat<=5 ^ 55:=Nat.pow_le_pow_right (by omega) (by omega)
       have d:5 ^ 55<2 ^ 128:=by decide
       have m:=Nat.mul_le_mul h1 (show 2 * 1<=2 * z from by omega)
       omega
 . rw [show e.toNat=0 from by omega,Nat.pow_zero,Nat.one_mul]
   refine ⟨fun q=>?_,fun q=>absurd q.1 c⟩
   exfalso
   have o:=pP s.toNat
   rw [q,show (-e).toNat=(-e).toNat - 1+1 from by omega,Nat.pow_succ] at o
   refine o ?_
   rw [show M * (5 ^ ((-e).toNat - 1) * 5 * 2 ^ (-s).toNat)=5 * (M * (5 ^ ((-e).toNat - 1) * 2 ^ (-s).toNat)) from by
    generalize 5 ^ ((-e).toNat - 1)=y
    generalize 2 ^ (-s).toNat=z
    rw [Nat.mul_comm y 5,Nat.mul_assoc 5 y,Nat.mul_left_comm]]
   exact Nat.mul_mod_right _ _
theorem eP (K:Int) (a m:Nat) (x:Int):ev K (a * m) x=a * ev K m x:=by unfold ev;rw [Nat.mul_assoc]
theorem iR {n d m:Nat}{e x:Int}(h:¬ vL n d e m x) (K:Int) (h1:K<=e) (h2:K<=x):d * ev K m x<=ev K n e:=by
 apply Nat.le_of_not_lt
 intro c
 exact h ⟨K,h1,h2,c⟩
theorem Pw.lo {e:Int}{M:Nat}{E:Int}(h:Pw e M E) (m:Nat):fLe (m * M) 1 E (m * pN e) (pD e) 0:=by
 obtain ⟨K,hK⟩:∃ K,K=min 0 E:=⟨_,rfl⟩
 refine ⟨K,by omega,by omega,?_⟩
 have a:=iR h.2.2.1 K (by omega) (by omega)
 rw [eP,eP,Nat.mul_one,Nat.mul_assoc,Nat.mul_comm (ev K M E)]
 exact Nat.mul_le_mul_left m a
theorem Pw.hi {e:Int}{M:Nat}{E:Int}(h:Pw e M E) {m:Nat}(m0:0<m):fLt (m * pN e) (pD e) 0 (m * (M+1)) 1 E:=by
 obtain ⟨K,hK⟩:∃ K,K=min 0 E:=⟨_,rfl⟩
 refine ⟨K,by omega,by omega,?_⟩
 have a:=h.2.2.2.at K (by omega) (by omega)
 rw [eP,eP,Nat.mul_one,Nat.mul_assoc,Nat.mul_comm (ev K (M+1) E)]
 exact Nat.mul_lt_mul_of_pos_left a m0
theorem sQ {e:Int}{M:Nat}{E:Int}(h:vE (pN e) (pD e) 0 M E) (m:Nat):Eqv (m * pN e * 1) 0 (m * M * pD e) E:=by
 obtain ⟨K,hK⟩:∃ K,K=min 0 E:=⟨_,rfl⟩
 refine ⟨K,by omega,by omega,?_⟩
 have a:=h.at K (by omega) (by omega)
 rw [Nat.mul_one,eP,a,Nat.mul_assoc,eP,Nat.mul_comm M (pD e),eP]
theorem fLt.both {n d n' d' n2 d2:Nat}{e e' e2:Int}(h:fLe n d e n' d' e') (k:fLt n' d' e' n2 d2 e2) (d0:0<d):fLt n d e n2 d2 e2:=by
 obtain ⟨K,hK⟩:∃ K,K=min e (min e' e2):=⟨_,rfl⟩
 refine ⟨K,by omega,by omega,?_⟩
 have a:=h.at K (by omega) (by omega)
 have b:=k.at K (by omega) (by omega)
 have a2:=Nat.mul_le_mul_right d2 a
 have b2:=Nat.mul_lt_mul_of_pos_right b d0
 have c:ev K n e * d2 * d'<ev K n2 e2 * d * d':=by
  calc ev K n e * d2 * d'=ev K n e * d' * d2:=Nat.mul_right_comm _ _ _
   _<=ev K n' e' * d * d2:=a2
   _=ev K n' e' * d2 * d:=Nat.mul_right_comm _ _ _
   _<ev K n2 e2 * d' * d:=b2
   _=ev K n2 e2 * d * d':=Nat.mul_right_comm _ _ _
 exact Nat.lt_of_mul_lt_mul_right c
theorem yF {n d:Nat}{e:Int}{m m':Nat}(n0:0<n) (d0:0<d) (h:m<m'):fLt (m * n) d e (m' * n) d e:=by
 refine ⟨e,Int.le_refl _,Int.le_refl _,?_⟩
 rw [aB,aB]
 exact Nat.mul_lt_mul_of_pos_right (Nat.mul_lt_mul_of_pos_right h n0) d0
theorem aGK {f:Nat}(hf:0<f) {L E t:Int}{P s:Nat}(g:Good f L (P / 2 ^ s) (E+s)):RDT f L P 1 E t (ly f L (rQT t (P / 2 ^ s) (P % 2 ^ s) (2 ^ s)) (E+s)):=by
 refine aBH hf t Nat.one_pos (Nat.mod_lt _ (Nat.two_pow_pos s)) g ?_
 rw [Nat.div_add_mod',Nat.mul_one]
 refine ⟨E,Int.le_refl _,by omega,?_⟩
 rw [aB]
 unfold ev
 rw [show (E+(s:Int) - E).toNat=s from by omega]
def rdE (f T b:Nat):Nat:=if b<T * 2 ^ f then b else T * 2 ^ f
theorem aHn {f T b c:Nat}(h:b<=c):rdE f T b<=rdE f T c:=by
 unfold rdE
 split <;> split <;> omega
def NrT (f T:Nat) (L:Int) (n d:Nat) (e t:Int) (x:Nat):Prop:=∃ b,RDT f L n d e t b/\x=rdE f T b
theorem NrT.uniq {f T:Nat}{L:Int}{n d:Nat}{e t:Int}{x y:Nat}(d0:0<d) (h:NrT f T L n d e t x) (k:NrT f T L n d e t y):x=y:=by
 obtain ⟨b,hb,rfl⟩:=h
 obtain ⟨c,hc,rfl⟩:=k
 rw [hb.uniq d0 hc]
theorem NrT.rise {f T:Nat}{L:Int}{n d n' d':Nat}{e e' t t':Int}{x y:Nat}(d0:0<d) (d0':0<d') (h:fLe n d e n' d' e') (ht:t<=t' \/ fLt n d e n' d' e') (k:NrT f T L n d e t x) (k':NrT f T L n' d' e' t' y):x<=y:=by
 obtain ⟨b,hb,rfl⟩:=k
 obtain ⟨c,hc,rfl⟩:=k'
 exact aHn (RDT.rise d0 d0' h ht hb hc)
theorem NrT.between {f T:Nat}{L:Int}{n d n1 d1 n2 d2:Nat}{e e1 e2 t t1 t2:Int}{x c:Nat}(d0:0<d) (d01:0<d1) (d02:0<d2)
 (h1:fLe n1 d1 e1 n d e) (ht1:t1<=t \/ fLt n1 d1 e1 n d e) (h2:fLe n d e n2 d2 e2) (ht2:t<=t2 \/ fLt n d e n2 d2 e2)
 (k1:NrT f T L n1 d1 e1 t1 x) (k2:NrT f T L n2 d2 e2 t2 x) (k:NrT f T L n d e t c):c=x :=
 Nat.le_antisymm (NrT.rise d0 d02 h2 ht2 k k2) (NrT.rise d01 d0 h1 ht1 k1 k)
theorem nR {f T:Nat}{L:Int}{n d n' d':Nat}{e e' t:Int}(d0:0<d) (d0':0<d') (h:Eqv (n * d') e (n' * d) e') (x:Nat):NrT f T L n d e t x ↔ NrT f T L n' d' e' t x:=by
 unfold NrT
 constructor
 . rintro ⟨b,hb,rfl⟩
   exact ⟨b,(aBb d0 d0' h b).1 hb,rfl⟩
 . rintro ⟨b,hb,rfl⟩
   exact ⟨b,(aBb d0 d0' h b).2 hb,rfl⟩
theorem aBX {f:Nat}{L:Int}{d:Nat}{e t:Int}(d0:0<d):RDT f L 0 d e t 0:=by
 refine ⟨.inl ⟨min e (hX f L 0),by omega,by omega,?_⟩,.inl rfl⟩
 unfold ev hM
 rw [Nat.zero_mul]
 exact Nat.mul_pos d0 (Nat.mul_pos (by omega) (Nat.two_pow_pos _))
theorem fZ {f T:Nat}{L:Int}{d:Nat}{e t:Int}(d0:0<d) (hT:0<T):NrT f T L 0 d e t 0:=by
 refine ⟨0,aBX d0,?_⟩
 unfold rdE
 rw [if_pos (Nat.mul_pos hT (Nat.two_pow_pos _))]
def drp (h k:Nat) (t:Int):Nat:=if 64<k then 0 else h / 2 ^ k+(if 2 ^ (k - 1)<h % 2 ^ k \/ (h % 2 ^ k=2 ^ (k - 1)/\(0<t \/ (t=0/\h / 2 ^ k % 2=1))) then 1 else 0)
theorem aIw {P B h r k:Nat}(t:Int) (hP:P=h * 2 ^ B+r) (hr:r<2 ^ B) (h64:h<2 ^ 64) (k0:0<k) :
 P / 2 ^ (B+k)=h / 2 ^ k/\rQT t (P / 2 ^ (B+k)) (P % 2 ^ (B+k)) (2 ^ (B+k))=drp h k (if r=0 then t else 1):=by
 have bp:=Nat.two_pow_pos B
 have e1:P / 2 ^ B=h:=by rw [hP,Nat.mul_comm,Nat.mul_add_div bp,Nat.div_eq_of_lt hr,Nat.add_zero]
 have e0:P % 2 ^ B=r:=by rw [hP,Nat.mul_comm,Nat.mul_add_mod,Nat.mod_eq_of_lt hr]
 have e2:P / 2 ^ (B+k)=h / 2 ^ k:=by rw [Nat.pow_add,<- Nat.div_div_eq_div_mul,e1]
 have e3:P % 2 ^ (B+k)=r+2 ^ B * (h % 2 ^ k):=by rw [Nat.pow_add,Nat.mod_mul,e0,e1]
 refine ⟨e2,?_⟩
 rw [e2,e3]
 have e4:2 ^ (B+k)=2 * (2 ^ B * 2 ^ (k - 1)):=by
  obtain ⟨j,rfl⟩:∃ j,k=j+1:=⟨k - 1,by omega⟩
  rw [Nat.add_sub_cancel,<- Nat.add_assoc,Nat.pow_succ,Nat.pow_add,Nat.mul_comm]
 rw [e4]
 have cmp:(2 * (2 ^ B * 2 ^ (k - 1))<2 * (r+2 ^ B * (h % 2 ^ k)) ↔ (2 ^ (k - 1)<h % 2 ^ k \/ (h % 2 ^ k=2 ^ (k - 1)/\r ≠ 0)))/\(2 * (r+2 ^ B * (h % 2 ^ k))=2 * (2 ^ B * 2 ^ (k - 1)) ↔ (h % 2 ^ k=2 ^ (k - 1)/\r=0)):=by
  generalize h % 2 ^ k=y
  generalize 2 ^ (k - 1)=c
  generalize 2 ^ B=b at *
  rcases Nat.lt_trichotomy c y with q | q | q
  . obtain ⟨j,rfl⟩:∃ j,y=c+1+j:=⟨y - c - 1,by omega⟩
    have z:b * (c+1+j)=b * c+b+b * j:=by rw [Nat.mul_add,Nat.mul_add,Nat.mul_one]
    generalize b * j=u at *
    generalize b * c=v at *
    constructor <;> constructor <;> intro _ <;> omega
  . subst q
    generalize b * c=v at *
    constructor <;> constructor <;> intro _ <;> omega
  . obtain ⟨j,rfl⟩:∃ j,c=y+1+j:=⟨c - y - 1,by omega⟩
    have z:b * (y+1+j)=b * y+b+b * j:=by rw [Nat.mul_add,Nat.mul_add,Nat.mul_one]
    generalize b * j=u at *
    generalize b * y=v at *
    constructor <;> constructor <;> intro _ <;> omega
 obtain ⟨c1,c2⟩:=cmp
 unfold rQT rUT
 simp only [c1,c2]
 unfold drp
 by_cases k64:64<k
 . rw [if_pos k64]
   have p1:2 ^ 64<=2 ^ (k - 1):=Nat.pow_le_pow_right (by decide) (by omega)
   have p2:2 ^ (k - 1)<=2 ^ k:=Nat.pow_le_pow_right (by decide) (by omega)
   rw [Nat.div_eq_of_lt (by omega),Nat.mod_eq_of_lt (by omega)]
   rw [if_neg]
   rw [decide_eq_true_eq]
   omega
 . rw [if_neg k64]
   congr 1
   generalize h % 2 ^ k=y
   generalize h / 2 ^ k=q
   generalize 2 ^ (k - 1)=c
   by_cases r0:r=0
   . rw [if_pos r0]
     simp only [decide_eq_true_eq]
     congr 1
     apply propext
     constructor <;> intro _ <;> omega
   . rw [if_neg r0]
     simp only [decide_eq_true_eq]
     congr 1
     apply propext
     constructor <;> intro _ <;> omega
theorem aKG {h k:Nat}(t:Int) (h64:h<2 ^ 64) (k0:0<k):drp h k t<2 ^ 64:=by
 unfold drp
 split
 . decide
 . have a:h / 2 ^ k<=h / 2:=Nat.div_le_div_left (by have:=Nat.pow_le_pow_right (n:=2) (by decide) (show 1<=k by omega);omega) (by decide)
   split <;> omega
theorem aEu {f T P B h r k:Nat}{L E:Int}(t:Int) (hf:0<f) (f6:f<63) (hT:2<=T) (hP:P=h * 2 ^ B+r) (hr:r<2 ^ B) (h63:2 ^ 63<=h) (h64:h<2 ^ 64)
 (hk:(k:Int)=max (63 - (f:Int)) (L - (E+B))) :
 (drp h k (if r=0 then t else 1)=0 -> NrT f T L P 1 E t 0) /\
 (drp h k (if r=0 then t else 1) ≠ 0 -> ∃ b,NrT f T L P 1 E t (rdE f T b)/\pk f (T:Int) L (drp h k (if r=0 then t else 1)) (E+B+k)=if b<T * 2 ^ f then some b else none):=by
 have k0:0<k:=by omega
 obtain ⟨e1,e2⟩:=aIw t hP hr h64 k0
 have g:Good f L (P / 2 ^ (B+k)) (E+((B+k:Nat):Int)):=by
  rw [e1]
  refine ⟨?_,by omega,?_⟩
  . rw [Nat.div_lt_iff_lt_mul (Nat.two_pow_pos k),<- Nat.pow_add]
    exact Nat.lt_of_lt_of_le h64 (Nat.pow_le_pow_right (by decide) (by omega))
  . by_cases c:(k:Int)=63 - (f:Int)
    . left
      rw [Nat.le_div_iff_mul_le (Nat.two_pow_pos k),<- Nat.pow_add,show f+k=63 from by omega]
      exact h63
    . right
      omega
 have rd:=aGK hf (t:=t) g
 rw [e2] at rd
 obtain ⟨q1,q2,q3⟩:=g
 rw [e1] at q1 q3
 have up:h / 2 ^ k<=drp h k (if r=0 then t else 1)/\drp h k (if r=0 then t else 1)<=h / 2 ^ k+1:=by
  rw [<- e2,e1]
  unfold rQT
  split <;> omega
 generalize drp h k (if r=0 then t else 1)=Q at *
 rw [show E+((B+k:Nat):Int)=E+B+k from by omega] at *
 have fp:=Nat.two_pow_pos f
 have tp:0<T * 2 ^ f:=Nat.mul_pos (by omega) fp
 constructor
 . intro z
   refine ⟨_,rd,?_⟩
   have e:E+B+k=L:=q3.resolve_left (by omega)
   unfold ly
   rw [z,e,show (L - L).toNat=0 from by omega,Nat.zero_mul]
   unfold rdE
   rw [if_pos tp]
 . intro z
   refine ⟨_,⟨_,rd,rfl⟩,wK hT z (by omega) q2 ?_⟩
   rcases q3 with q | q
   . exact .inl (by omega)
   . exact .inr q
theorem Pw.lt {e:Int}{M:Nat}{E:Int}(h:Pw e M E) (hx:¬ vE (pN e) (pD e) 0 M E) {m:Nat}(m0:0<m):fLt (m * M) 1 E (m * pN e) (pD e) 0:=by
 obtain ⟨K,hK⟩:∃ K,K=min 0 E:=⟨_,rfl⟩
 refine ⟨K,by omega,by omega,?_⟩
 have a:=iR h.2.2.1 K (by omega) (by omega)
 have b:ev K (pN e) 0 ≠ pD e * ev K M E:=fun z=>hx ⟨K,by omega,by omega,z⟩
 rw [eP,eP,Nat.mul_one,Nat.mul_assoc,Nat.mul_comm (ev K M E)]
 exact Nat.mul_lt_mul_of_pos_left (by omega) m0
def aLj (j:Nat):Bool:=decide (10 ^ j * 2 ^ 128<(2 ^ 128 - 1) * 2 ^ ((10 ^ j).log2+1))
def aLi (j:Nat):Bool:=decide (j=0) || decide (2 ^ (10 ^ j).log2 * 2 ^ 128<10 ^ j * (2 ^ 128 - 1))
theorem aG6:(List.range 401).all aLj=true:=by decide +kernel
theorem aG5:(List.range 401).all aLi=true:=by decide +kernel
theorem aC1 {p:Nat -> Bool}{n k:Nat}(h:(List.range n).all p=true) (hk:k<n):p k=true:=List.all_eq_true.1 h k (List.mem_range.2 hk)
theorem aBt {m k:Nat}(h:2 ^ k<=m) (h':m<2 ^ (k+1)):m.log2=k:=by
 have a:=aCl h h'
 unfold ln at a
 split at a
 . omega
 . omega
theorem aJG {n a b C:Nat}(_hC:2<=C) (hp:C=2 ^ 128) (n0:0<n) (h1:n * 2 ^ b<C * 2 ^ a) (h2:(C - 1) * 2 ^ a<=n * 2 ^ b) (ok:n * C<(C - 1) * 2 ^ (n.log2+1)):False:=by
 have bp:=Nat.two_pow_pos b
 have ab:b<128+a:=by
  rcases Nat.lt_or_ge b (128+a) with c | c
  . exact c
  . have q:2 ^ (128+a)<=2 ^ b:=Nat.pow_le_pow_right (by decide) c
    rw [Nat.pow_add,<- hp] at q
    have:=Nat.le_mul_of_pos_left (2 ^ b) n0
    omega
 obtain ⟨k,hk⟩:∃ k,128+a=b+(k+1):=⟨128+a - b - 1,by omega⟩
 have e:C * 2 ^ a=2 ^ b * 2 ^ (k+1):=by rw [hp,<- Nat.pow_add,<- Nat.pow_add,hk]
 have l1:n<2 ^ (k+1):=by
  rw [e,Nat.mul_comm (2 ^ b)] at h1
  exact Nat.lt_of_mul_lt_mul_right h1
 have l2:2 ^ k<=n:=by
  apply Nat.le_of_not_lt
  intro c
  have c2:n * 2 ^ b<2 ^ k * 2 ^ b:=Nat.mul_lt_mul_of_pos_right c bp
  have e2:2 * (2 ^ k * 2 ^ b)=C * 2 ^ a:=by rw [e,Nat.pow_succ];generalize 2 ^ k=u;generalize 2 ^ b=v;rw [Nat.mul_comm u v,Nat.mul_comm v (u * 2),Nat.mul_comm u 2,Nat.mul_assoc,Nat.mul_comm u v]
  have e3:C * 2 ^ a<=2 * ((C - 1) * 2 ^ a):=by rw [<- Nat.mul_assoc];exact Nat.mul_le_mul_right _ (by omega)
  omega
 rw [aBt l2 l1] at ok
 have s1:=Nat.mul_lt_mul_of_pos_right ok bp
 have s2:=Nat.mul_le_mul_right C h2
 have e4:(C - 1) * 2 ^ (k+1) * 2 ^ b=(C - 1) * 2 ^ a * C:=by
  rw [Nat.mul_assoc,Nat.mul_comm (2 ^ (k+1)),<- e,Nat.mul_assoc,Nat.mul_comm C]
 have e5:n * C * 2 ^ b=n * 2 ^ b * C:=Nat.mul_right_comm _ _ _
 omega
theorem aJF {d a b C:Nat}(_hC:4<=C) (hp:C=2 ^ 128) (d2:2<=d) (h1:2 ^ b<d * (C * 2 ^ a)) (h2:d * ((C - 1) * 2 ^ a)<=2 ^ b) (ok:2 ^ d.log2 * C<d * (C - 1)):False:=by
 have ap:=Nat.two_pow_pos a
 have ab:128+a<=b:=by
  rcases Nat.lt_or_ge b (128+a) with c | c
  . have q:2 ^ (b+1)<=2 ^ (128+a):=Nat.pow_le_pow_right (by decide) c
    rw [Nat.pow_add 2 128,<- hp,Nat.pow_succ] at q
    have x1:2 * ((C - 1) * 2 ^ a)<=d * ((C - 1) * 2 ^ a):=Nat.mul_le_mul_right _ d2
    have x2:2 ^ a * C+2 * 2 ^ a<=2 * (2 * ((C - 1) * 2 ^ a)):=by
     rw [<- Nat.mul_assoc,<- Nat.mul_assoc,Nat.mul_comm (2 ^ a) C,<- Nat.add_mul]
     exact Nat.mul_le_mul_right _ (by omega)
    rw [Nat.mul_comm C] at q
    omega
  . exact c
 obtain ⟨c,hc⟩:∃ c,b=c+(128+a):=⟨b - (128+a),by omega⟩
 have e:2 ^ b=2 ^ c * C * 2 ^ a:=by rw [hc,Nat.pow_add,Nat.pow_add,<- hp,Nat.mul_assoc]
 have l1:2 ^ c<d:=by
  rw [e,Nat.mul_assoc] at h1
  exact Nat.lt_of_mul_lt_mul_right h1
 have h3:d * (C - 1)<=2 ^ c * C:=by
  rw [e,<- Nat.mul_assoc] at h2
  exact Nat.le_of_mul_le_mul_right h2 ap
 have l2:d<2 ^ (c+1):=by
  apply Nat.lt_of_not_le
  intro q
  have x1:2 ^ (c+1) * (C - 1)<=d * (C - 1):=Nat.mul_le_mul_right _ q
  have x2:2 ^ c * C<2 ^ (c+1) * (C - 1):=by
   rw [Nat.pow_succ,Nat.mul_assoc]
   exact Nat.mul_lt_mul_of_pos_left (by omega) (Nat.two_pow_pos c)
  omega
 rw [aBt (Nat.le_of_lt l1) l2] at ok
 omega
theorem Pw.room {e:Int}{M:Nat}{E:Int}(h:Pw e M E) (h1:-400<=e) (h2:e<=400):M+1<2 ^ 128:=by
 obtain ⟨q1,q2,q3,q4⟩:=h
 apply Nat.lt_of_le_of_ne q2
 intro z
 obtain ⟨C,hp⟩:∃ C,C=2 ^ 128:=⟨_,rfl⟩
 have hC:4<=C:=by rw [hp];decide
 rw [<- hp] at z
 have zM:M=C - 1:=by omega
 obtain ⟨K,hK⟩:∃ K,K=min 0 E:=⟨_,rfl⟩
 have u1:=iR q3 K (by omega) (by omega)
 have u2:=q4.at K (by omega) (by omega)
 rw [zM,show C - 1+1=C from by omega] at u2
 rw [zM] at u1
 unfold ev at u1 u2
 rcases Int.lt_or_le e 0 with c | c
 . obtain ⟨j,rfl⟩:∃ j:Nat,e = -(j:Int):=⟨(-e).toNat,by omega⟩
   have ok:=aC1 aG5 (show j<401 by omega)
   unfold aLi at ok
   rw [Bool.or_eq_true,decide_eq_true_eq,decide_eq_true_eq,<- hp] at ok
   have ok2:=ok.resolve_left (by omega)
   unfold pN pD at u1 u2
   rw [show (-(j:Int)).toNat=0 from by omega,show (- -(j:Int)).toNat=j from by omega,Nat.pow_zero,Nat.one_mul] at u1 u2
   have d2:2<=10 ^ j:=by
    obtain ⟨i,rfl⟩:∃ i,j=i+1:=⟨j - 1,by omega⟩
    rw [Nat.pow_succ]
    have:=Nat.pow_pos (n:=i) (show 0<10 by decide)
    omega
   exact aJF hC hp d2 u2 u1 ok2
 . obtain ⟨j,rfl⟩:∃ j:Nat,e=(j:Int):=⟨e.toNat,by omega⟩
   have ok:=aC1 aG6 (show j<401 by omega)
   unfold aLj at ok
   rw [decide_eq_true_eq,<- hp] at ok
   unfold pN pD at u1 u2
   rw [show (-(j:Int)).toNat=0 from by omega,show (j:Int).toNat=j from by omega,Nat.pow_zero,Nat.one_mul] at u1 u2
   exact aJG (by omega) hp (Nat.pow_pos (by decide)) u2 u1 ok
end Go.Proofs.YtejgpbhionadbaaGreatDoor
