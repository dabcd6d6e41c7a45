/-
  Holds: UIeM UIeN UEwA UEwB UEwC.
-/
import Derived.Laws.BitsAllLaws
import Derived.Laws.FloatArith
import Derived.Test.YtejgpbhionadbaaGreatDoorChecked
import Derived.Laws.Externs
import Derived.WalkKit
import Derived.WalkSpells
import Derived.WalkLawsBesides
import Derived.Test.YtejgpbhionadbaaGreatDoorXl3
set_option maxRecDepth 100000
set_option maxHeartbeats 4000000
namespace Go.Proofs.YtejgpbhionadbaaGreatDoor
theorem aGg (neg:Bool) (n drop:Nat):Ieee.Toward.even.cut neg n drop=rQ false (n / 2 ^ drop) (n % 2 ^ drop) (2 ^ drop):=by
 have key:∀ D,n / 2 ^ D+(decide (2 ^ D<2 * (n % 2 ^ D)) || (2 ^ D == 2 * (n % 2 ^ D) && (n / 2 ^ D % 2 == 1))).toNat=rQ false (n / 2 ^ D) (n % 2 ^ D) (2 ^ D):=by
  intro D
  unfold rQ rU
  generalize n / 2 ^ D=q
  generalize n % 2 ^ D=r
  generalize 2 ^ D=y
  by_cases a:y<2 * r
  . rw [if_pos (decide_eq_true (.inl a)),decide_eq_true a];rfl
  . rw [decide_eq_false a,Bool.false_or]
    by_cases b:y=2 * r
    . by_cases c:q % 2=1
      . rw [if_pos (decide_eq_true (.inr ⟨b.symm,.inr c⟩)),beq_iff_eq.2 b,beq_iff_eq.2 c];rfl
      . rw [if_neg (by simp only [decide_eq_true_eq];rintro (h | ⟨_,h | h⟩);omega;cases h;exact c h),beq_eq_false_iff_ne.2 c,Bool.and_false];rfl
    . rw [if_neg (by simp only [decide_eq_true_eq];rintro (h | ⟨h,_⟩);omega;omega),beq_eq_false_iff_ne.2 b];rfl
 unfold Ieee.Toward.cut
 simp only [Nat.one_shiftLeft]
 rcases Nat.le_total drop (n.log2+2) with c | c
 . rw [Nat.min_eq_left c]
   exact key drop
 . rw [Nat.min_eq_right c]
   have l:n<2 ^ (n.log2+1):=Nat.lt_log2_self
   have l2:2 * n<2 ^ (n.log2+2):=by rw [Nat.pow_succ 2 (n.log2+1)];omega
   have l3:2 ^ (n.log2+2)<=2 ^ drop:=Nat.pow_le_pow_right (by decide) c
   have small:∀ D,2 * n<2 ^ D -> rQ false (n / 2 ^ D) (n % 2 ^ D) (2 ^ D)=0:=by
    intro D h
    rw [Nat.div_eq_of_lt (by omega),Nat.mod_eq_of_lt (by omega)]
    unfold rQ rU
    rw [if_neg]
    simp only [decide_eq_true_eq]
    omega
   have k:=key (n.log2+2)
   rw [small _ l2] at k
   rw [small _ (by omega)]
   exact k
theorem aGx {m:Nat}(m0:m ≠ 0):Fst m 1 (m.log2:Int):=by
 have l1:2 ^ m.log2<=m:=Nat.log2_self_le m0
 have l2:m<2 ^ (m.log2+1):=Nat.lt_log2_self
 constructor
 . intro c
   have q:=c.at 0 (Int.le_refl _) (by omega)
   rw [aB,dO,Nat.one_mul,show ((m.log2:Int) - 0).toNat=m.log2 from by omega] at q
   omega
 . refine ⟨0,Int.le_refl _,by omega,?_⟩
   rw [aB,dO,Nat.one_mul,show ((m.log2:Int)+1 - 0).toNat=m.log2+1 from by omega]
   exact l2
structure FmtN (F:Ieee.Format) (f T:Nat) (L:Int):Prop where
 frac:F.fractionBits=f
 fpos:0<f
 inf:F.infRung=T * 2 ^ f
 two:2<=T
 least:F.leastPlace=L
 sign:F.signWeight=(T+1) * 2 ^ f
theorem aL5:FmtN Ieee.single 23 255 (-149):=⟨rfl,by decide,by decide,by decide,by decide,by decide⟩
theorem aL6:FmtN Ieee.double 52 2047 (-1074):=⟨rfl,by decide,by decide +kernel,by decide,by decide +kernel,by decide +kernel⟩
theorem gE {F:Ieee.Format}{f T:Nat}{L:Int}(h:FmtN F f T L) (m:Nat) (e:Int):F.nearest false m e=(rdA f T L m 1 e false).1:=by
 unfold Ieee.Format.nearest
 by_cases m0:m=0
 . rw [if_pos m0]
   unfold Ieee.Format.word rdA
   rw [if_pos m0,if_neg (by decide)]
 . rw [if_neg m0]
   simp only [Ieee.Format.word,Ieee.Format.binade,h.frac,h.inf,h.least]
   rw [if_neg (by decide),aGg,Nat.shiftLeft_eq]
   obtain ⟨l,hl⟩:∃ l:Int,l=max (e+(m.log2:Int) - (f:Int)) L:=⟨_,rfl⟩
   rw [<- hl]
   obtain ⟨g,q⟩:=kS (f:=f) (L:=L) (e:=e) (l:=l) (by decide:(1:Nat) ≠ 0) (aGx m0) (by rw [hl,Int.add_comm e])
   rw [Nat.one_mul] at g q
   have y0:0<2 ^ (l - e).toNat:=Nat.two_pow_pos _
   have r:=aAa h.fpos false (by decide:0<1) (Nat.mod_lt _ y0) g (by rw [Nat.div_add_mod'];exact q)
   rw [bU h.fpos m0 (by decide) r]
   unfold ly
   split
   . rename_i c
     exact Nat.min_eq_left (Nat.le_of_lt c)
   . rename_i c
     exact Nat.min_eq_right (Nat.not_lt.1 c)
theorem fJ {F:Ieee.Format}{f T:Nat}{L:Int}(h:FmtN F f T L) {b:Nat}(hb:b<T * 2 ^ f):F.read b=.number false (mt f b) (xp f L b):=by
 have p:=Nat.two_pow_pos f
 have hs:b<F.signWeight:=by rw [h.sign,Nat.add_mul];omega
 have e1:b / F.signWeight=0:=Nat.div_eq_of_lt hs
 have e2:b % F.signWeight=b:=Nat.mod_eq_of_lt hs
 unfold Ieee.Format.read
 simp only [e1,e2,Ieee.Format.binade,h.frac,h.inf,h.least]
 unfold mt xp
 by_cases c:b<2 ^ f
 . have z:b / 2 ^ f=0:=Nat.div_eq_of_lt c
   rw [if_pos c,if_pos z,if_pos z]
   rfl
 . have z:b / 2 ^ f ≠ 0:=by
    intro z
    exact c ((Nat.div_eq_zero_iff_lt p).1 z)
   rw [if_neg c,if_pos hb,if_neg z,if_neg z]
   congr 1
   . omega
   . generalize b / 2 ^ f=q at z ⊢
     omega
theorem aK9 {F:Ieee.Format}{f T:Nat}{L:Int}(h:FmtN F f T L) {x y:Nat}(hx:x<T * 2 ^ f) (hy:y<T * 2 ^ f):F.mul x y=some (rdA f T L (mt f x * mt f y) 1 (xp f L x+xp f L y) false).1:=by
 unfold Ieee.Format.mul
 rw [fJ h hx,fJ h hy]
 show some (F.nearest (false ^^ false) _ _)=_
 rw [<- gE h]
 rfl
theorem tE {f:Nat}{L:Int}{n d Y Q r:Nat}{e p:Int}(d0:0<d) (hr:r<Y) (hQ:2 ^ (f+1)<=Q) (h:Eqv (n * Y) e ((Q * Y+r) * d) p) (b:Nat) :
 Up f L n d e false b ↔ Up f L (2 * Q+(if r=0 then 0 else 1)) 1 (p - 1) false b:=by
 have Y0:0<Y:=by omega
 have g:=kN f L b
 have hm:hM f b<2 ^ (f+2):=by
  unfold hM
  have:=g.1
  rw [Nat.pow_succ 2 (f+1)]
  omega
 have key:(vL n d e (hM f b) (hX f L b) ↔ vL (2 * Q+(if r=0 then 0 else 1)) 1 (p - 1) (hM f b) (hX f L b))/\(vE n d e (hM f b) (hX f L b) ↔ vE (2 * Q+(if r=0 then 0 else 1)) 1 (p - 1) (hM f b) (hX f L b)):=by
  rw [eX d0 Y0 h,rM d0 Y0 h]
  generalize hM f b=M at *
  generalize hX f L b=x at *
  by_cases c:p<=x
  . obtain ⟨k,hk⟩:∃ k,k=M * 2 ^ (x - p).toNat:=⟨_,rfl⟩
    have e1:ev p M x=k:=by unfold ev;rw [hk]
    have e2:ev (p - 1) M x=2 * k:=by
     unfold ev
     rw [hk,show (x - (p - 1)).toNat=(x - p).toNat+1 from by omega,Nat.pow_succ,<- Nat.mul_assoc]
     omega
    have a1:vL (Q * Y+r) Y p M x ↔ Q<k:=by
     constructor
     . intro u
       have q:=u.at p (Int.le_refl _) c
       rw [aB,e1,Nat.mul_comm Q Y] at q
       apply Nat.lt_of_not_le
       intro z
       have:=Nat.mul_le_mul_left Y z
       omega
     . intro u
       refine ⟨p,Int.le_refl _,c,?_⟩
       rw [aB,e1,Nat.mul_comm Q Y]
       have:=Nat.mul_le_mul_left Y u
       rw [Nat.mul_succ] at this
       omega
    have a2:vE (Q * Y+r) Y p M x ↔ (Q=k/\r=0):=by
     constructor
     . intro u
       have q:=u.at p (Int.le_refl _) c
       rw [aB,e1,Nat.mul_comm Q Y] at q
       have k1:(Y * Q+r) / Y=Q:=by rw [Nat.mul_add_div Y0,Nat.div_eq_of_lt hr,Nat.add_zero]
       have k2:(Y * k) / Y=k:=Nat.mul_div_cancel_left _ Y0
       have k3:Q=k:=by rw [<- k1,q,k2]
       refine ⟨k3,?_⟩
       rw [k3] at q
       omega
     . rintro ⟨u,v⟩
       refine ⟨p,Int.le_refl _,c,?_⟩
       rw [aB,e1,v,u,Nat.mul_comm,Nat.add_zero]
    rw [a1,a2]
    have cx:p - 1<=x:=by omega
    constructor
    . constructor
      . intro u
        refine ⟨p - 1,Int.le_refl _,cx,?_⟩
        rw [aB,e2,Nat.one_mul]
        split <;> omega
      . intro u
        have q:=u.at (p - 1) (Int.le_refl _) cx
        rw [aB,e2,Nat.one_mul] at q
        split at q <;> omega
    . constructor
      . rintro ⟨u,v⟩
        refine ⟨p - 1,Int.le_refl _,cx,?_⟩
        rw [aB,e2,Nat.one_mul,if_pos v]
        omega
      . intro u
        have q:=u.at (p - 1) (Int.le_refl _) cx
        rw [aB,e2,Nat.one_mul] at q
        split at q
        . exact ⟨by omega,by assumption⟩
        . omega
  . have cl:x<=p - 1:=by omega
    have big:M<Q * 2 ^ (p - x).toNat:=by
     have a:2 ^ 1<=2 ^ (p - x).toNat:=Nat.pow_le_pow_right (by decide) (by omega)
     have b:=Nat.mul_le_mul hQ a
     rw [<- Nat.pow_add] at b
     exact Nat.lt_of_lt_of_le hm b
    have n1:Y * M<ev x (Q * Y+r) p:=by
     unfold ev
     rw [Nat.add_mul,Nat.mul_right_comm]
     have:=Nat.mul_lt_mul_of_pos_left big Y0
     rw [Nat.mul_comm Y (Q * 2 ^ (p - x).toNat)] at this
     omega
    have n2:M<ev x (2 * Q+(if r=0 then 0 else 1)) (p - 1):=by
     unfold ev
     have a:Q * 2 ^ (p - x).toNat=2 * Q * 2 ^ (p - 1 - x).toNat:=by
      rw [show (p - x).toNat=(p - 1 - x).toNat+1 from by omega,Nat.pow_succ,Nat.mul_comm 2 Q,Nat.mul_assoc,Nat.mul_comm 2]
     rw [a] at big
     rw [Nat.add_mul]
     omega
    constructor
    . constructor
      . intro u
        have q:=u.at x (by omega) (Int.le_refl _)
        rw [aB] at q
        omega
      . intro u
        have q:=u.at x (by omega) (Int.le_refl _)
        rw [aB,Nat.one_mul] at q
        omega
    . constructor
      . intro u
        have q:=u.at x (by omega) (Int.le_refl _)
        rw [aB] at q
        omega
      . intro u
        have q:=u.at x (by omega) (Int.le_refl _)
        rw [aB,Nat.one_mul] at q
        omega
 unfold Up
 rw [key.1,key.2]
theorem aKC {F:Ieee.Format}{f T:Nat}{L:Int}(h:FmtN F f T L) {x y:Nat}(hx:x<T * 2 ^ f) (hy:y<T * 2 ^ f) (x0:x ≠ 0) (y0:y ≠ 0):F.div x y=some (rdA f T L (mt f x) (mt f y) (xp f L x - xp f L y) false).1:=by
 have mne:∀ {b:Nat},b ≠ 0 -> mt f b ≠ 0:=by
  intro b b0
  unfold mt
  split
  . exact b0
  . have:=Nat.two_pow_pos f;omega
 have m0:=mne x0
 have n0:=mne y0
 unfold Ieee.Format.div
 rw [fJ h hx,fJ h hy,h.frac]
 generalize mt f x=m at *
 generalize mt f y=n at *
 generalize xp f L x=i at *
 generalize xp f L y=j at *
 have n0':0<n:=Nat.pos_of_ne_zero n0
 unfold Ieee.Datum.quotient
 simp only
 rw [if_neg n0]
 show some (F.nearest (false ^^ false) _ _)=_
 obtain ⟨k,hk⟩:∃ k,k=f+2+n.log2 - m.log2:=⟨_,rfl⟩
 rw [<- hk,Nat.shiftLeft_eq]
 congr 1
 rw [show (false ^^ false)=false from rfl,gE h]
 have hQ:2 ^ (f+1)<=m * 2 ^ k / n:=by
  rw [Nat.le_div_iff_mul_le n0']
  have l1:2 ^ m.log2<=m:=Nat.log2_self_le m0
  have l2:n<2 ^ (n.log2+1):=Nat.lt_log2_self
  have a:=Nat.mul_le_mul_right (2 ^ k) l1
  rw [<- Nat.pow_add] at a
  have b:2 ^ (f+1) * n<=2 ^ (f+1) * 2 ^ (n.log2+1):=Nat.mul_le_mul_left _ (Nat.le_of_lt l2)
  rw [<- Nat.pow_add] at b
  have c:2 ^ (f+1+(n.log2+1))<=2 ^ (m.log2+k):=Nat.pow_le_pow_right (by decide) (by omega)
  omega
 have hr:m * 2 ^ k % n<n:=Nat.mod_lt _ n0'
 have eq:Eqv (m * n) (i - j) ((m * 2 ^ k / n * n+m * 2 ^ k % n) * n) (i - j - k):=by
  rw [Nat.div_add_mod']
  have:=Eqv.shl (m * n) (i - j) k
  rw [Nat.mul_right_comm] at this
  exact this
 have st:(m * 2 ^ k % n != 0).toNat=(if m * 2 ^ k % n=0 then 0 else 1):=by
  by_cases z:m * 2 ^ k % n=0
  . rw [if_pos z,z];rfl
  . rw [if_neg z,bne_iff_ne.2 z];rfl
 rw [st]
 have q0:2 * (m * 2 ^ k / n)+(if m * 2 ^ k % n=0 then 0 else 1) ≠ 0:=by
  have:=Nat.two_pow_pos (f+1)
  omega
 have r1:=eQ (f:=f) (L:=L) (e:=i - j - (k:Int) - 1) h.fpos false q0 (by decide:(1:Nat) ≠ 0)
 rw [bU (e:=i - j - (k:Int) - 1) h.fpos q0 (by decide) r1]
 have r2:RD f L m n (i - j) false (rdN f L (2 * (m * 2 ^ k / n)+(if m * 2 ^ k % n=0 then 0 else 1)) 1 (i - j - (k:Int) - 1) false):=by
  refine ⟨(tE n0' hr hQ eq _).2 r1.1,?_⟩
  rcases r1.2 with z | z
  . exact .inl z
  . exact .inr (fun u=>z ((tE n0' hr hQ eq _).1 u))
 rw [bU h.fpos m0 n0 r2]
def Is (f T:Nat) (L:Int) (n b:Nat):Prop:=b<T * 2 ^ f/\Eqv n 0 (mt f b) (xp f L b)
theorem Is.rd {f T:Nat}(hf:0<f) {L:Int}{n b:Nat}(n0:n ≠ 0) (h:Is f T L n b):rdA f T L n 1 0 false=(b,false):=by
 have v:vE n 1 0 (mt f b) (xp f L b):=by
  obtain ⟨K,a,c,q⟩:=h.2
  exact ⟨K,a,c,by rw [Nat.one_mul];exact q⟩
 rw [bU hf n0 (by decide) (aCZ false (by decide) v),if_pos h.1]
theorem nV {f T:Nat}{L:Int}{n m k:Nat}(hn:n=m * 2 ^ k) (m0:m ≠ 0) (hm:m<2 ^ (f+1)) (hL:L<=0) (hT:(k:Int) - L+2<=T):∃ b,Is f T L n b:=by
 have l1:2 ^ m.log2<=m:=Nat.log2_self_le m0
 have l2:m<2 ^ (m.log2+1):=Nat.lt_log2_self
 have lf:m.log2<=f:=by
  have a:2 ^ m.log2<2 ^ (f+1):=Nat.lt_of_le_of_lt l1 hm
  have:=(Nat.pow_lt_pow_iff_right (by decide:1<2)).1 a
  omega
 obtain ⟨t,ht⟩:∃ t:Nat,t=min (f - m.log2) ((k:Int) - L).toNat:=⟨_,rfl⟩
 have g:Good f L (m * 2 ^ t) ((k:Int) - t):=by
  refine ⟨?_,by omega,?_⟩
  . have a:=Nat.mul_lt_mul_of_pos_right l2 (Nat.two_pow_pos t)
    rw [<- Nat.pow_add] at a
    exact Nat.lt_of_lt_of_le a (Nat.pow_le_pow_right (by decide) (by omega))
  . by_cases c:f - m.log2<=((k:Int) - L).toNat
    . left
      have a:=Nat.mul_le_mul_right (2 ^ t) l1
      rw [<- Nat.pow_add,show m.log2+t=f from by omega] at a
      exact a
    . right
      omega
 obtain ⟨p1,p2⟩:=kE g
 refine ⟨ly f L (m * 2 ^ t) ((k:Int) - t),?_,?_⟩
 . unfold ly
   have a:=g.1
   rw [Nat.pow_succ] at a
   have b:(((k:Int) - t - L).toNat+2) * 2 ^ f<=T * 2 ^ f:=Nat.mul_le_mul_right _ (by omega)
   rw [Nat.add_mul] at b
   omega
 . rw [p1,p2,hn]
   have a:=Eqv.shl m (k:Int) t
   have b:=Eqv.shl m (k:Int) k
   rw [Int.sub_self] at b
   exact b.symm.trans a
theorem aBn {a b a' b':Nat}{x y x' y':Int}(h:Eqv a x a' x') (k:Eqv b y b' y'):Eqv (a * b) (x+y) (a' * b') (x'+y'):=by
 have p:=h.all (min x x') (by omega) (by omega)
 have q:=k.all (min y y') (by omega) (by omega)
 refine ⟨min x x'+min y y',by omega,by omega,?_⟩
 unfold ev at p q ⊢
 rw [show (x+y - (min x x'+min y y')).toNat=(x - min x x').toNat+(y - min y y').toNat from by omega,show (x'+y' - (min x x'+min y y')).toNat=(x' - min x x').toNat+(y' - min y y').toNat from by omega,Nat.pow_add,Nat.pow_add]
 rw [Nat.mul_mul_mul_comm,p,q,Nat.mul_mul_mul_comm]
theorem zF {F:Ieee.Format}{f T:Nat}{L:Int}(h:FmtN F f T L) {n m x y:Nat}(hx:Is f T L n x) (hy:Is f T L m y):F.mul x y=some (rdA f T L (n * m) 1 0 false).1:=by
 rw [aK9 h hx.1 hy.1]
 congr 2
 refine kT h.fpos (by decide) (by decide) ?_
 have e:=aBn hx.2 hy.2
 rw [Nat.mul_one,Nat.mul_one]
 rw [Int.add_zero] at e
 exact e.symm
theorem aGr {n m a b:Nat}{x y:Int}(hx:Eqv n 0 a x) (hy:Eqv m 0 b y):Eqv (a * m) (x - y) (n * b) 0:=by
 have p:=hx.all (min x (min 0 y)) (by omega) (by omega)
 have q:=hy.all (min y (min 0 x)) (by omega) (by omega)
 refine ⟨min x (min 0 y)+min (-y) (min 0 (-x))+min 0 y+min 0 x,by omega,by omega,?_⟩
 have e1:=aBn hx (Eqv.symm hy)
 have z:=e1.symm
 have d:=z.all (min x (min 0 y)+min y (min 0 x)) (by omega) (by omega)
 clear p q
 unfold ev at d ⊢
 obtain ⟨K,hK⟩:∃ K,K=min x (min 0 y)+min y (min 0 x):=⟨_,rfl⟩
 obtain ⟨J,hJ⟩:∃ J,J=min x (min 0 y)+min (-y) (min 0 (-x))+min 0 y+min 0 x:=⟨_,rfl⟩
 rw [<- hK] at d
 rw [<- hJ]
 rw [Int.add_zero,Int.zero_add] at d
 have s:(x - K).toNat=(x - y - (K - y)).toNat:=by omega
 have s2:(y - K).toNat=(0 - (K - y)).toNat:=by omega
 rw [s,s2] at d
 have w1:J<=K - y \/ K - y<=J:=by omega
 rcases w1 with c | c
 . rw [show (x - y - J).toNat=(x - y - (K - y)).toNat+(K - y - J).toNat from by omega,show (0 - J).toNat=(0 - (K - y)).toNat+(K - y - J).toNat from by omega,Nat.pow_add,Nat.pow_add,<- Nat.mul_assoc,<- Nat.mul_assoc,d]
 . have hp:=Nat.two_pow_pos (J - (K - y)).toNat
   rw [show (x - y - (K - y)).toNat=(x - y - J).toNat+(J - (K - y)).toNat from by omega,show (0 - (K - y)).toNat=(0 - J).toNat+(J - (K - y)).toNat from by omega,Nat.pow_add,Nat.pow_add,<- Nat.mul_assoc,<- Nat.mul_assoc] at d
   exact Nat.eq_of_mul_eq_mul_right hp d
theorem Is.ne {f T:Nat}{L:Int}{n b:Nat}(n0:n ≠ 0) (h:Is f T L n b):b ≠ 0:=by
 rintro rfl
 refine h.2.pos n0 ?_
 unfold mt
 rw [Nat.zero_div]
 rfl
theorem aDC {F:Ieee.Format}{f T:Nat}{L:Int}(h:FmtN F f T L) {n m x y:Nat}(n0:n ≠ 0) (m0:m ≠ 0) (hx:Is f T L n x) (hy:Is f T L m y):F.div x y=some (rdA f T L n m 0 false).1:=by
 rw [aKC h hx.1 hy.1 (hx.ne n0) (hy.ne m0)]
 congr 2
 refine kT h.fpos (hy.2.pos m0) m0 ?_
 exact aGr hx.2 hy.2
theorem aG4 {k:FloatKind}{f T:Nat}{L:Int}(h:FmtN k.format f T L) (n:Nat):floatOfInt k (n:Int)=(rdA f T L n 1 0 false).1:=by
 unfold floatOfInt FloatKind.nearest FloatKind.encode
 rw [show decide ((n:Int)<0)=false from decide_eq_false (by omega),Int.natAbs_natCast]
 show k.format.nearest false n 0=_
 exact gE h n 0
theorem kJ {k:FloatKind}{f T:Nat}{L:Int}(h:FmtN k.format f T L) {n b:Nat}(n0:n ≠ 0) (hb:Is f T L n b):floatOfInt k (n:Int)=b:=by
 rw [aG4 h,hb.rd h.fpos n0]
theorem jL:FmtN FloatKind.f32.format 23 255 (-149):=aL5
theorem jM:FmtN FloatKind.f64.format 52 2047 (-1074):=aL6
theorem qK {n:Nat}(n0:n ≠ 0) (h:n<=9007199254740992):∃ b,Is 52 2047 (-1074) n b:=by
 by_cases c:n=9007199254740992
 . exact nV (m:=1) (k:=53) (by rw [c]) (by decide) (by decide) (by decide) (by decide)
 . exact nV (m:=n) (k:=0) (by rw [Nat.pow_zero,Nat.mul_one]) n0 (by simp only [Nat.reduceAdd,Nat.reducePow];omega) (by decide) (by decide)
theorem qJ {n:Nat}(n0:n ≠ 0) (h:n<=16777216):∃ b,Is 23 255 (-149) n b:=by
 by_cases c:n=16777216
 . exact nV (m:=1) (k:=24) (by rw [c]) (by decide) (by decide) (by decide) (by decide)
 . exact nV (m:=n) (k:=0) (by rw [Nat.pow_zero,Nat.mul_one]) n0 (by simp only [Nat.reduceAdd,Nat.reducePow];omega) (by decide) (by decide)
theorem uU (k:Nat):10 ^ k=5 ^ k * 2 ^ k:=by rw [<- Nat.mul_pow]
theorem aGJ {k:Nat}(h:k<=22):∃ b,Is 52 2047 (-1074) (10 ^ k) b:=by
 refine nV (uU k) (Nat.ne_of_gt (Nat.pow_pos (by decide))) ?_ (by decide) (by omega)
 exact Nat.lt_of_le_of_lt (Nat.pow_le_pow_right (by decide) h) (by decide)
theorem yT {k:Nat}(h:k<=10):∃ b,Is 23 255 (-149) (10 ^ k) b:=by
 refine nV (uU k) (Nat.ne_of_gt (Nat.pow_pos (by decide))) ?_ (by decide) (by omega)
 exact Nat.lt_of_le_of_lt (Nat.pow_le_pow_right (by decide) h) (by decide)
theorem Is.uniq {f T:Nat}(hf:0<f) {L:Int}{n b b':Nat}(n0:n ≠ 0) (h:Is f T L n b) (h':Is f T L n b'):b=b':=by
 have e:=(h.rd hf n0).symm.trans (h'.rd hf n0)
 exact congrArg Prod.fst e
theorem aGV {F:Ieee.Format}{f T:Nat}{L:Int}(h:FmtN F f T L) {n m x y b:Nat}(n0:n ≠ 0) (m0:m ≠ 0) (hx:Is f T L n x) (hy:Is f T L m y) (hb:Is f T L (n * m) b):F.mul x y=some b:=by
 rw [zF h hx hy,hb.rd h.fpos (Nat.mul_ne_zero n0 m0)]
end Go.Proofs.YtejgpbhionadbaaGreatDoor
namespace Go.Proofs.YtejgpbhionadbaaGreatDoor
open Go.RowKit
theorem aIC (b:Nat) (w:World):(callFunc 144 #[.float .f64 b]).run Tryz.prog w=.ok (.value (vU (b:Int))) w:=by
 rw [run_callFunc_extern Tryz.func144 (by kernel_rfl) (by kernel_rfl) (by kernel_rfl) (e:=Extern.MathFloatBits.float64bits) (by kernel_rfl)]
 rfl
theorem aIB (b:Nat) (w:World):(callFunc 142 #[.float .f32 b]).run Tryz.prog w=.ok (.value (.int .u32 (b:Int))) w:=by
 rw [run_callFunc_extern Tryz.func142 (by kernel_rfl) (by kernel_rfl) (by kernel_rfl) (e:=Extern.MathFloatBits.float32bits) (by kernel_rfl)]
 rfl
def exA (f T:Nat) (L:Int) (m:Nat) (e:Int):Nat:=(rdA f T L (m * 10 ^ e.toNat) (10 ^ (-e).toNat) 0 false).1
theorem aDQ {f T:Nat}{L:Int}{m k:Nat}:exA f T L m (k:Int)=(rdA f T L (m * 10 ^ k) 1 0 false).1:=by
 unfold exA
 rw [Int.toNat_natCast,show (-(k:Int)).toNat=0 from by omega,Nat.pow_zero]
theorem aDP {f T:Nat}{L:Int}{m k:Nat}:exA f T L m (-(k:Int))=(rdA f T L m (10 ^ k) 0 false).1:=by
 unfold exA
 rw [show (- -(k:Int)).toNat=k from by omega,show (-(k:Int)).toNat=0 from by omega,Nat.pow_zero,Nat.mul_one]
theorem yS:Is 52 2047 (-1074) 1 4607182418800017408:=⟨by decide,-52,by decide,by decide +kernel,by decide +kernel⟩
theorem aEk:Is 52 2047 (-1074) 10 4621819117588971520:=⟨by decide,-49,by decide,by decide +kernel,by decide +kernel⟩
theorem fS (k:Nat):10 ^ k ≠ 0:=Nat.ne_of_gt (Nat.pow_pos (by decide))
theorem rK (n:Nat) (hn:n<=22) (w:World):Calls Tryz.prog 186 #[vI (n:Int)] w fun e w'=>(∃ b,e=.returned (.float .f64 b)/\Is 52 2047 (-1074) (10 ^ n) b)/\w'=w:=by
 go_enter Tryz.func186,Tryz.ntmps186
 go_wp2
 go_loop [3,5] (fun pv iv=>∃ k b:Nat,pv=.float .f64 b/\iv=vI (k:Int)/\k<=n/\Hid (Is 52 2047 (-1074) (10 ^ k) b)) (fun _ iv=>n - (intOf iv).toNat)
 case atStart=>exact ⟨0,_,rfl,rfl,Nat.zero_le _,yS⟩
 case round =>
  obtain ⟨k,b,rfl,rfl,hk,HB⟩:=hrel
  by_cases c:k<n
  . obtain ⟨b',hb'⟩:=aGJ (k:=k+1) (by omega)
    have hm:floatBits .mul .f64 b 4621819117588971520=some b':=aGV jM (fS k) (by decide) HB.out aEk (by rw [<- Nat.pow_succ];exact hb')
    have hop:∀ t w,(binOp .mul t (.float .f64 b) (.float .f64 4621819117588971520)).run Tryz.prog w=.ok (.float .f64 b') w:=fun t w=>run_float_arith w .mul t .f64 _ _ _ hm
    have HB':Hid (Is 52 2047 (-1074) (10 ^ (k+1)) b'):=hb'
    clear hb' hm HB
    go_wp2_with (simp only [hop])
    go_round
    case rel=>exact ⟨k+1,b',rfl,by go_num,by omega,HB'⟩
    case measure=>simp [intOf];omega
  . obtain rfl:k=n:=by omega
    go_wp2
    go_ret
    exact ⟨⟨_,rfl,HB.out⟩,rfl⟩
theorem uI {n b b':Nat}(n0:n ≠ 0) (h:Is 52 2047 (-1074) n b) (h':Is 23 255 (-149) n b'):floatToFloatBits .f64 b .f32=some b':=by
 have e1:FloatKind.f64.decode b=.number false (mt 52 b) (xp 52 (-1074) b):=fJ jM h.1
 have e2:FloatKind.f32.encode (.number false (mt 52 b) (xp 52 (-1074) b))=b':=by
  show FloatKind.f32.format.nearest false (mt 52 b) (xp 52 (-1074) b)=b'
  rw [gE jL]
  have e:=h'.rd (by decide) n0
  rw [kT (d:=1) (d':=1) (n':=mt 52 b) (e':=xp 52 (-1074) b) (by decide) (by decide) (by decide) (by rw [Nat.mul_one,Nat.mul_one];exact h.2)] at e
  rw [e]
 have e3:FloatKind.f32.decode b'=.number false (mt 23 b') (xp 23 (-149) b'):=fJ jL h'.1
 unfold floatToFloatBits
 rw [if_neg (by decide),e1]
 simp only [e2,e3,Ieee.Datum.isInfinity]
 rfl
theorem aEJ:floatOfInt .f64 ((0:Nat):Int)=0:=by decide +kernel
theorem aEI:floatOfInt .f32 ((0:Nat):Int)=0:=by decide +kernel
theorem xV (f T:Nat) (L e:Int):exA f T L 0 e=0:=by
 unfold exA rdA
 rw [Nat.zero_mul,if_pos rfl]
theorem aMd {m k p:Nat}(hm:m<=9007199254740992) (hp:Is 52 2047 (-1074) (10 ^ k) p) (h0:m=0 -> k=0):floatBits .mul .f64 (floatOfInt .f64 (m:Int)) p=some (exA 52 2047 (-1074) m (k:Int)):=by
 by_cases m0:m=0
 . obtain rfl:=h0 m0
   subst m0
   obtain rfl:=hp.uniq (by decide) (by decide) yS
   rw [xV,aEJ]
   decide +kernel
 . obtain ⟨b,hb⟩:=qK m0 hm
   rw [kJ jM m0 hb,aDQ]
   exact zF jM hb hp
theorem aMm {m k p:Nat}(hm:m<=9007199254740992) (m0:m ≠ 0) (hp:Is 52 2047 (-1074) (10 ^ k) p):floatBits .quo .f64 (floatOfInt .f64 (m:Int)) p=some (exA 52 2047 (-1074) m (-(k:Int))):=by
 obtain ⟨b,hb⟩:=qK m0 hm
 rw [kJ jM m0 hb,aDP]
 exact aDC jM m0 (fS k) hb hp
theorem aGI:Is 23 255 (-149) 1 1065353216:=⟨by decide,-23,by decide,by decide +kernel,by decide +kernel⟩
theorem aMc {m k p:Nat}(hm:m<=16777216) (hp:Is 23 255 (-149) (10 ^ k) p) (h0:m=0 -> k=0):floatBits .mul .f32 (floatOfInt .f32 (m:Int)) p=some (exA 23 255 (-149) m (k:Int)):=by
 by_cases m0:m=0
 . obtain rfl:=h0 m0
   subst m0
   obtain rfl:=hp.uniq (by decide) (by decide) aGI
   rw [xV,aEI]
   decide +kernel
 . obtain ⟨b,hb⟩:=qJ m0 hm
   rw [kJ jL m0 hb,aDQ]
   exact zF jL hb hp
theorem aMl {m k p:Nat}(hm:m<=16777216) (m0:m ≠ 0) (hp:Is 23 255 (-149) (10 ^ k) p):floatBits .quo .f32 (floatOfInt .f32 (m:Int)) p=some (exA 23 255 (-149) m (-(k:Int))):=by
 obtain ⟨b,hb⟩:=qJ m0 hm
 rw [kJ jL m0 hb,aDP]
 exact aDC jL m0 (fS k) hb hp
theorem aDH (m k:Nat) (hm:m<=9007199254740992) (hk:k<=22) (h0:m=0 -> k=0) (w:World):Cs 145 #[vU (m:Int),vI (k:Int)] w (.float .f64 (exA 52 2047 (-1074) m (k:Int))):=by
 have T:=fun W=>rK k hk W
 have HF:Hid (∀ p,Is 52 2047 (-1074) (10 ^ k) p -> floatBits .mul .f64 (floatOfInt .f64 (m:Int)) p=some (exA 52 2047 (-1074) m (k:Int))):=fun p hp=>aMd hm hp h0
 generalize exA 52 2047 (-1074) m (k:Int)=R at *
 have c:¬ (k:Int)<0:=by omega
 clear hm h0
 go_enter Tryz.func145,Tryz.ntmps145
 go_wp2_with fail
 refine (T _).mono ?_
 rintro e w1 ⟨⟨p,rfl,hp⟩,rfl⟩
 have hop:∀ t w,(binOp .mul t (.float .f64 (floatOfInt .f64 (m:Int))) (.float .f64 p)).run Tryz.prog w=.ok (.float .f64 R) w:=fun t w=>run_float_arith w .mul t .f64 _ _ _ (HF.out p hp)
 clear T hp HF
 go_wp2
 go_ret
 exact ⟨rfl,rfl⟩
theorem aDG (m k:Nat) (hm:m<=9007199254740992) (m0:m ≠ 0) (hk:k<=22) (k0:0<k) (w:World):Cs 145 #[vU (m:Int),vI (-(k:Int))] w (.float .f64 (exA 52 2047 (-1074) m (-(k:Int)))):=by
 have T:=fun W=>rK k hk W
 have HF:Hid (∀ p,Is 52 2047 (-1074) (10 ^ k) p -> floatBits .quo .f64 (floatOfInt .f64 (m:Int)) p=some (exA 52 2047 (-1074) m (-(k:Int)))):=fun p hp=>aMm hm m0 hp
 generalize exA 52 2047 (-1074) m (-(k:Int))=R at *
 have c:-(k:Int)<0:=by omega
 clear hm m0 k0
 go_enter Tryz.func145,Tryz.ntmps145
 go_wp2_with fail
 refine (T _).mono ?_
 rintro e w1 ⟨⟨p,rfl,hp⟩,rfl⟩
 have hop:∀ t w,(binOp .quo t (.float .f64 (floatOfInt .f64 (m:Int))) (.float .f64 p)).run Tryz.prog w=.ok (.float .f64 R) w:=fun t w=>run_float_arith w .quo t .f64 _ _ _ (HF.out p hp)
 clear T hp HF
 go_wp2
 go_ret
 exact ⟨rfl,rfl⟩
theorem aFs (m k:Nat) (hm:m<=16777216) (hk:k<=10) (h0:m=0 -> k=0) (w:World):Cs 143 #[vU (m:Int),vI (k:Int)] w (.float .f32 (exA 23 255 (-149) m (k:Int))):=by
 have T:=fun W=>rK k (by omega) W
 obtain ⟨q,hq⟩:=yT hk
 have HF:Hid (floatBits .mul .f32 (floatOfInt .f32 (m:Int)) q=some (exA 23 255 (-149) m (k:Int))/\Is 23 255 (-149) (10 ^ k) q):=⟨aMc hm hq h0,hq⟩
 generalize exA 23 255 (-149) m (k:Int)=R at *
 have c:¬ (k:Int)<0:=by omega
 clear hm h0 hq
 go_enter Tryz.func143,Tryz.ntmps143
 go_wp2_with fail
 refine (T _).mono ?_
 rintro e w1 ⟨⟨p,rfl,hp⟩,rfl⟩
 have hop:∀ t w,(binOp .mul t (.float .f32 (floatOfInt .f32 (m:Int))) (.float .f32 q)).run Tryz.prog w=.ok (.float .f32 R) w:=fun t w=>run_float_arith w .mul t .f32 _ _ _ HF.out.1
 have hc:∀ w,(convert 234 231 (.float .f64 p)).run Tryz.prog w=.ok (.float .f32 q) w:=fun w=>run_convert_float_float w 234 231 .f64 .f32 p q (by kernel_rfl) (by kernel_rfl) (uI (fS k) hp HF.out.2)
 clear T hp HF
 go_wp2
 go_ret
 exact ⟨rfl,rfl⟩
theorem aFr (m k:Nat) (hm:m<=16777216) (m0:m ≠ 0) (hk:k<=10) (k0:0<k) (w:World):Cs 143 #[vU (m:Int),vI (-(k:Int))] w (.float .f32 (exA 23 255 (-149) m (-(k:Int)))):=by
 have T:=fun W=>rK k (by omega) W
 obtain ⟨q,hq⟩:=yT hk
 have HF:Hid (floatBits .quo .f32 (floatOfInt .f32 (m:Int)) q=some (exA 23 255 (-149) m (-(k:Int)))/\Is 23 255 (-149) (10 ^ k) q):=⟨aMl hm m0 hq,hq⟩
 generalize exA 23 255 (-149) m (-(k:Int))=R at *
 have c:-(k:Int)<0:=by omega
 clear hm m0 hq k0
 go_enter Tryz.func143,Tryz.ntmps143
 go_wp2_with fail
 refine (T _).mono ?_
 rintro e w1 ⟨⟨p,rfl,hp⟩,rfl⟩
 have hop:∀ t w,(binOp .quo t (.float .f32 (floatOfInt .f32 (m:Int))) (.float .f32 q)).run Tryz.prog w=.ok (.float .f32 R) w:=fun t w=>run_float_arith w .quo t .f32 _ _ _ HF.out.1
 have hc:∀ w,(convert 234 231 (.float .f64 p)).run Tryz.prog w=.ok (.float .f32 q) w:=fun w=>run_convert_float_float w 234 231 .f64 .f32 p q (by kernel_rfl) (by kernel_rfl) (uI (fS k) hp HF.out.2)
 clear T hp HF
 go_wp2
 go_ret
 exact ⟨rfl,rfl⟩
theorem aGs (m:Nat) (e:Int):exA 23 255 (-149) m e<4294967296:=by
 have:=(fG (f:=23) (T:=255) (L:=(-149)) (n:=m * 10 ^ e.toNat) (d:=10 ^ (-e).toNat) (e:=0) (more:=false) (by decide)).1
 unfold exA
 omega
theorem aE9 {m:Nat}{e:Int}(D:∀ W,Cs 145 #[vU (m:Int),vI e] W (.float .f64 (exA 52 2047 (-1074) m e))) (w:World):Cs 107 #[vU (m:Int),vI e,vI 64] w (vU ((exA 52 2047 (-1074) m e:Nat):Int)):=by
 generalize exA 52 2047 (-1074) m e=R at *
 go_enter Tryz.func107,Tryz.ntmps107
 go_wp2_with fail
 refine (D _).mono ?_
 rintro x w1 ⟨rfl,rfl⟩
 go_wp2_with (simp only [aIC])
 go_ret
 exact ⟨rfl,rfl⟩
theorem aE8 {m:Nat}{e:Int}(D:∀ W,Cs 143 #[vU (m:Int),vI e] W (.float .f32 (exA 23 255 (-149) m e))) (w:World):Cs 107 #[vU (m:Int),vI e,vI 32] w (vU ((exA 23 255 (-149) m e:Nat):Int)):=by
 have l:=aGs m e
 generalize exA 23 255 (-149) m e=R at *
 go_enter Tryz.func107,Tryz.ntmps107
 go_wp2_with fail
 refine (D _).mono ?_
 rintro x w1 ⟨rfl,rfl⟩
 go_wp2_with (simp only [aIB])
 go_ret
 exact ⟨rfl,rfl⟩
def Xz (s:Int) (f T:Nat) (L:Int) (M K:Nat):Prop:=(s=32/\f=23/\T=255/\L = -149/\M=16777216/\K=10) \/ (s=64/\f=52/\T=2047/\L = -1074/\M=9007199254740992/\K=22)
theorem aFa {s:Int}{f T:Nat}{L:Int}{M K:Nat}(h:Xz s f T L M K) {m:Nat}{e:Int}(hm:m<=M) (h0:-(K:Int)<=e) (h1:e<=K) (hz:m=0 -> e=0) (w:World):Cs 107 #[vU (m:Int),vI e,vI s] w (vU ((exA f T L m e:Nat):Int)):=by
 rcases h with ⟨rfl,rfl,rfl,rfl,rfl,rfl⟩ | ⟨rfl,rfl,rfl,rfl,rfl,rfl⟩
 . refine aE8 (fun W=>?_) w
   by_cases c:0<=e
   . obtain ⟨k,rfl⟩:∃ k:Nat,e=(k:Int):=⟨e.toNat,by omega⟩
     exact aFs m k hm (by omega) (fun z=>by have:=hz z;omega) W
   . obtain ⟨k,rfl⟩:∃ k:Nat,e = -(k:Int):=⟨(-e).toNat,by omega⟩
     exact aFr m k hm (fun z=>by have:=hz z;omega) (by omega) (by omega) W
 . refine aE9 (fun W=>?_) w
   by_cases c:0<=e
   . obtain ⟨k,rfl⟩:∃ k:Nat,e=(k:Int):=⟨e.toNat,by omega⟩
     exact aDH m k hm (by omega) (fun z=>by have:=hz z;omega) W
   . obtain ⟨k,rfl⟩:∃ k:Nat,e = -(k:Int):=⟨(-e).toNat,by omega⟩
     exact aDG m k hm (fun z=>by have:=hz z;omega) (by omega) (by omega) W
theorem aBw {s:Int}{f T:Nat}{L:Int}{M K:Nat}(h:Xz s f T L M K) (w:World):Cs 106 #[vI s] w (.tuple #[vU (M:Int),vI (K:Int),.nilIface]):=by
 rcases h with ⟨rfl,rfl,rfl,rfl,rfl,rfl⟩ | ⟨rfl,rfl,rfl,rfl,rfl,rfl⟩
 . go_enter Tryz.func106,Tryz.ntmps106
   go_wp2
   refine bodyPost_ret (v:=.tuple #[vU 16777216,vI 10,.nilIface]) (by simp [results,Tryz.results106,go_sem]) rfl ⟨rfl,rfl⟩
 . go_enter Tryz.func106,Tryz.ntmps106
   go_wp2
   refine bodyPost_ret (v:=.tuple #[vU 9007199254740992,vI 22,.nilIface]) (by simp [results,Tryz.results106,go_sem]) rfl ⟨rfl,rfl⟩
theorem aJ4 {s:Int}{f T:Nat}{L:Int}{M K:Nat}(h:Xz s f T L M K) {m:Nat}{e:Int}(m0:m ≠ 0) (hm:m<=M) (h0:-(K:Int)<=e) (h1:e<=K) (w:World):Cs 78 #[vU (m:Int),vI e,vI s] w (.tuple #[vU ((exA f T L m e:Nat):Int),.bool true,.nilIface]):=by
 have T:=fun W=>aBw h W
 have R:=fun W=>aFa h hm h0 h1 (fun z=>absurd z m0) W
 have c0:((m:Int) == 0)=false:=by simp;omega
 have c1:¬ (M:Int)<(m:Int):=by omega
 have c2:¬ e < -(K:Int):=by omega
 have c3:¬ (K:Int)<e:=by omega
 have hk:K<=22:=by rcases h with ⟨_,_,_,_,_,q⟩ | ⟨_,_,_,_,_,q⟩ <;> omega
 clear h hm h0 h1 m0
 generalize exA f _ L m e=RR at *
 go_enter Tryz.func78,Tryz.ntmps78
 go_wp2_with fail
 refine (T _).mono ?_
 rintro x w1 ⟨rfl,rfl⟩
 go_wp2_with fail
 refine (R _).mono ?_
 rintro x w1 ⟨rfl,rfl⟩
 go_wp2
 refine bodyPost_ret (v:=.tuple #[vU (RR:Int),.bool true,.nilIface]) (by simp [results,Tryz.results78,go_sem]) rfl ⟨rfl,rfl⟩
theorem aLQ {s:Int}{f T:Nat}{L:Int}{M K:Nat}(h:Xz s f T L M K) {m:Nat}{e:Int}(m0:m ≠ 0) (hm:M<m \/ e < -(K:Int) \/ (K:Int)<e) (w:World):Cs 78 #[vU (m:Int),vI e,vI s] w (.tuple #[vU 0,.bool false,.nilIface]):=by
 have T:=fun W=>aBw h W
 have c0:((m:Int) == 0)=false:=by simp;omega
 have hk:K<=22:=by rcases h with ⟨_,_,_,_,_,q⟩ | ⟨_,_,_,_,_,q⟩ <;> omega
 clear h m0
 by_cases c1:(M:Int)<(m:Int)
 . clear hm
   go_enter Tryz.func78,Tryz.ntmps78
   go_wp2_with fail
   refine (T _).mono ?_
   rintro x w1 ⟨rfl,rfl⟩
   go_wp2
   refine bodyPost_ret (v:=.tuple #[vU 0,.bool false,.nilIface]) (by simp [results,Tryz.results78,go_sem]) rfl ⟨rfl,rfl⟩
 . by_cases c2:e < -(K:Int)
   . clear hm
     go_enter Tryz.func78,Tryz.ntmps78
     go_wp2_with fail
     refine (T _).mono ?_
     rintro x w1 ⟨rfl,rfl⟩
     go_wp2
     refine bodyPost_ret (v:=.tuple #[vU 0,.bool false,.nilIface]) (by simp [results,Tryz.results78,go_sem]) rfl ⟨rfl,rfl⟩
   . have c3:(K:Int)<e:=by omega
     clear hm
     go_enter Tryz.func78,Tryz.ntmps78
     go_wp2_with fail
     refine (T _).mono ?_
     rintro x w1 ⟨rfl,rfl⟩
     go_wp2
     refine bodyPost_ret (v:=.tuple #[vU 0,.bool false,.nilIface]) (by simp [results,Tryz.results78,go_sem]) rfl ⟨rfl,rfl⟩
end Go.Proofs.YtejgpbhionadbaaGreatDoor
