/-
  Holds: UIeM.
-/
import Derived.Laws.BitsAllLaws
import Derived.Test.YtejgpbhionadbaaGreatDoorXg3
set_option maxRecDepth 100000
set_option maxHeartbeats 4000000
namespace Go.Proofs.YtejgpbhionadbaaGreatDoor
theorem cut_even (neg:Bool) (n drop:Nat):Ieee.Toward.even.cut neg n drop=rQ false (n / 2 ^ drop) (n % 2 ^ drop) (2 ^ drop):=by
 have key:∀ D,n / 2 ^ D+(decide (2 ^ D<2 * (n % 2 ^ D)) || (2 ^ D == 2 * (n % 2 ^ D) && (n / 2 ^ D % 2 == 1))).toNat=rQ false (n / 2 ^ D) (n % 2 ^ D) (2 ^ D):=by
  intro D
  unfold rQ rU
  generalize n / 2 ^ D=q
  generalize n % 2 ^ D=r
  generalize 2 ^ D=y
  by_cases a:y<2 * r
  · rw [if_pos (decide_eq_true (.inl a)),decide_eq_true a];rfl
  · rw [decide_eq_false a,Bool.false_or]
    by_cases b:y=2 * r
    · by_cases c:q % 2=1
      · rw [if_pos (decide_eq_true (.inr ⟨b.symm,.inr c⟩)),beq_iff_eq.2 b,beq_iff_eq.2 c];rfl
      · rw [if_neg (by simp only [decide_eq_true_eq];rintro (h | ⟨_,h | h⟩);omega;cases h;exact c h),beq_eq_false_iff_ne.2 c,Bool.and_false];rfl
    · rw [if_neg (by simp only [decide_eq_true_eq];rintro (h | ⟨h,_⟩);omega;omega),beq_eq_false_iff_ne.2 b];rfl
 unfold Ieee.Toward.cut
 simp only [Nat.one_shiftLeft]
 rcases Nat.le_total drop (n.log2+2) with c | c
 · rw [Nat.min_eq_left c]
   exact key drop
 · rw [Nat.min_eq_right c]
   have l:n<2 ^ (n.log2+1):=Nat.lt_log2_self
   have l2:2 * n<2 ^ (n.log2+2):=by rw [Nat.pow_succ 2 (n.log2+1)];omega
   have l3:2 ^ (n.log2+2)≤2 ^ drop:=Nat.pow_le_pow_right (by decide) c
   have small:∀ D,2 * n<2 ^ D → rQ false (n / 2 ^ D) (n % 2 ^ D) (2 ^ D)=0:=by
    intro D h
    rw [Nat.div_eq_of_lt (by omega),Nat.mod_eq_of_lt (by omega)]
    unfold rQ rU
    rw [if_neg]
    simp only [decide_eq_true_eq]
    omega
   have k:=key (n.log2+2)
   rw [small _ l2] at k
   rw [small _ (by omega)]
   exact k
theorem fst_log2 {m:Nat}(m0:m ≠ 0):Fst m 1 (m.log2:Int):=by
 have l1:2 ^ m.log2≤m:=Nat.log2_self_le m0
 have l2:m<2 ^ (m.log2+1):=Nat.lt_log2_self
 constructor
 · intro c
   have q:=c.at 0 (Int.le_refl _) (by omega)
   rw [ev_self,ev_one,Nat.one_mul,show ((m.log2:Int) - 0).toNat=m.log2 from by omega] at q
   omega
 · refine ⟨0,Int.le_refl _,by omega,?_⟩
   rw [ev_self,ev_one,Nat.one_mul,show ((m.log2:Int)+1 - 0).toNat=m.log2+1 from by omega]
   exact l2
structure FmtN (F:Ieee.Format) (f T:Nat) (L:Int):Prop where
 frac:F.fractionBits=f
 fpos:0<f
 inf:F.infRung=T * 2 ^ f
 two:2≤T
 least:F.leastPlace=L
 sign:F.signWeight=(T+1) * 2 ^ f
theorem fmt32:FmtN Ieee.single 23 255 (-149):=⟨rfl,by decide,by decide,by decide,by decide,by decide⟩
theorem fmt64:FmtN Ieee.double 52 2047 (-1074):=⟨rfl,by decide,by decide +kernel,by decide,by decide +kernel,by decide +kernel⟩
theorem nearest_rd {F:Ieee.Format}{f T:Nat}{L:Int}(h:FmtN F f T L) (m:Nat) (e:Int):F.nearest false m e=(rdA f T L m 1 e false).1:=by
 unfold Ieee.Format.nearest
 by_cases m0:m=0
 · rw [if_pos m0]
   unfold Ieee.Format.word rdA
   rw [if_pos m0,if_neg (by decide)]
 · rw [if_neg m0]
   simp only [Ieee.Format.word,Ieee.Format.binade,h.frac,h.inf,h.least]
   rw [if_neg (by decide),cut_even,Nat.shiftLeft_eq]
   obtain ⟨l,hl⟩:∃ l:Int,l=max (e+(m.log2:Int) - (f:Int)) L:=⟨_,rfl⟩
   rw [← hl]
   obtain ⟨g,q⟩:=quo_good (f:=f) (L:=L) (e:=e) (l:=l) (by decide:(1:Nat) ≠ 0) (fst_log2 m0) (by rw [hl,Int.add_comm e])
   rw [Nat.one_mul] at g q
   have y0:0<2 ^ (l - e).toNat:=Nat.two_pow_pos _
   have r:=quo_RD h.fpos false (by decide:0<1) (Nat.mod_lt _ y0) g (by rw [Nat.div_add_mod'];exact q)
   rw [rdA_of h.fpos m0 (by decide) r]
   unfold ly
   split
   · rename_i c
     exact Nat.min_eq_left (Nat.le_of_lt c)
   · rename_i c
     exact Nat.min_eq_right (Nat.not_lt.1 c)
theorem read_fin {F:Ieee.Format}{f T:Nat}{L:Int}(h:FmtN F f T L) {b:Nat}(hb:b<T * 2 ^ f):F.read b=.number false (mt f b) (xp f L b):=by
 have p:=Nat.two_pow_pos f
 have hs:b<F.signWeight:=by rw [h.sign,Nat.add_mul];omega
 have e1:b / F.signWeight=0:=Nat.div_eq_of_lt hs
 have e2:b % F.signWeight=b:=Nat.mod_eq_of_lt hs
 unfold Ieee.Format.read
 simp only [e1,e2,Ieee.Format.binade,h.frac,h.inf,h.least]
 unfold mt xp
 by_cases c:b<2 ^ f
 · have z:b / 2 ^ f=0:=Nat.div_eq_of_lt c
   rw [if_pos c,if_pos z,if_pos z]
   rfl
 · have z:b / 2 ^ f ≠ 0:=by
    intro z
    exact c ((Nat.div_eq_zero_iff_lt p).1 z)
   rw [if_neg c,if_pos hb,if_neg z,if_neg z]
   congr 1
   · omega
   · generalize b / 2 ^ f=q at z ⊢
     omega
theorem mul_rd {F:Ieee.Format}{f T:Nat}{L:Int}(h:FmtN F f T L) {x y:Nat}(hx:x<T * 2 ^ f) (hy:y<T * 2 ^ f):F.mul x y=some (rdA f T L (mt f x * mt f y) 1 (xp f L x+xp f L y) false).1:=by
 unfold Ieee.Format.mul
 rw [read_fin h hx,read_fin h hy]
 show some (F.nearest (false ^^ false) _ _)=_
 rw [← nearest_rd h]
 rfl
theorem Up_sticky {f:Nat}{L:Int}{n d Y Q r:Nat}{e p:Int}(d0:0<d) (hr:r<Y) (hQ:2 ^ (f+1)≤Q) (h:Eqv (n * Y) e ((Q * Y+r) * d) p) (b:Nat) :
 Up f L n d e false b ↔ Up f L (2 * Q+(if r=0 then 0 else 1)) 1 (p - 1) false b:=by
 have Y0:0<Y:=by omega
 have g:=parts_good f L b
 have hm:hM f b<2 ^ (f+2):=by
  unfold hM
  have:=g.1
  rw [Nat.pow_succ 2 (f+1)]
  omega
 have key:(vL n d e (hM f b) (hX f L b) ↔ vL (2 * Q+(if r=0 then 0 else 1)) 1 (p - 1) (hM f b) (hX f L b))∧(vE n d e (hM f b) (hX f L b) ↔ vE (2 * Q+(if r=0 then 0 else 1)) 1 (p - 1) (hM f b) (hX f L b)):=by
  rw [vL_iff d0 Y0 h,vE_iff d0 Y0 h]
  generalize hM f b=M at *
  generalize hX f L b=x at *
  by_cases c:p≤x
  · obtain ⟨k,hk⟩:∃ k,k=M * 2 ^ (x - p).toNat:=⟨_,rfl⟩
    have e1:ev p M x=k:=by unfold ev;rw [hk]
    have e2:ev (p - 1) M x=2 * k:=by
     unfold ev
     rw [hk,show (x - (p - 1)).toNat=(x - p).toNat+1 from by omega,Nat.pow_succ,← Nat.mul_assoc]
     omega
    have a1:vL (Q * Y+r) Y p M x ↔ Q<k:=by
     constructor
     · intro u
       have q:=u.at p (Int.le_refl _) c
       rw [ev_self,e1,Nat.mul_comm Q Y] at q
       apply Nat.lt_of_not_le
       intro z
       have:=Nat.mul_le_mul_left Y z
       omega
     · intro u
       refine ⟨p,Int.le_refl _,c,?_⟩
       rw [ev_self,e1,Nat.mul_comm Q Y]
       have:=Nat.mul_le_mul_left Y u
       rw [Nat.mul_succ] at this
       omega
    have a2:vE (Q * Y+r) Y p M x ↔ (Q=k∧r=0):=by
     constructor
     · intro u
       have q:=u.at p (Int.le_refl _) c
       rw [ev_self,e1,Nat.mul_comm Q Y] at q
       have k1:(Y * Q+r) / Y=Q:=by rw [Nat.mul_add_div Y0,Nat.div_eq_of_lt hr,Nat.add_zero]
       have k2:(Y * k) / Y=k:=Nat.mul_div_cancel_left _ Y0
       have k3:Q=k:=by rw [← k1,q,k2]
       refine ⟨k3,?_⟩
       rw [k3] at q
       omega
     · rintro ⟨u,v⟩
       refine ⟨p,Int.le_refl _,c,?_⟩
       rw [ev_self,e1,v,u,Nat.mul_comm,Nat.add_zero]
    rw [a1,a2]
    have cx:p - 1≤x:=by omega
    constructor
    · constructor
      · intro u
        refine ⟨p - 1,Int.le_refl _,cx,?_⟩
        rw [ev_self,e2,Nat.one_mul]
        split <;> omega
      · intro u
        have q:=u.at (p - 1) (Int.le_refl _) cx
        rw [ev_self,e2,Nat.one_mul] at q
        split at q <;> omega
    · constructor
      · rintro ⟨u,v⟩
        refine ⟨p - 1,Int.le_refl _,cx,?_⟩
        rw [ev_self,e2,Nat.one_mul,if_pos v]
        omega
      · intro u
        have q:=u.at (p - 1) (Int.le_refl _) cx
        rw [ev_self,e2,Nat.one_mul] at q
        split at q
        · exact ⟨by omega,by assumption⟩
        · omega
  · have cl:x≤p - 1:=by omega
    have big:M<Q * 2 ^ (p - x).toNat:=by
     have a:2 ^ 1≤2 ^ (p - x).toNat:=Nat.pow_le_pow_right (by decide) (by omega)
     have b:=Nat.mul_le_mul hQ a
     rw [← Nat.pow_add] at b
     exact Nat.lt_of_lt_of_le hm b
    have n1:Y * M<ev x (Q * Y+r) p:=by
     unfold ev
     rw [Nat.add_mul,Nat.mul_right_comm]
     have:=Nat.mul_lt_mul_of_pos_left big Y0
     rw [Nat.mul_comm Y (Q * 2 ^ (p - x).toNat)] at this
     omega
    have n2:M<ev x (2 * Q+(if r=0 then 0 else 1)) (p - 1):=by
     unfold ev
     have a:Q * 2 ^ (p - x).toNat=2 * Q * 2 ^ (p - 1 - x).toNat:=by
      rw [show (p - x).toNat=(p - 1 - x).toNat+1 from by omega,Nat.pow_succ,Nat.mul_comm 2 Q,Nat.mul_assoc,Nat.mul_comm 2]
     rw [a] at big
     rw [Nat.add_mul]
     omega
    constructor
    · constructor
      · intro u
        have q:=u.at x (by omega) (Int.le_refl _)
        rw [ev_self] at q
        omega
      · intro u
        have q:=u.at x (by omega) (Int.le_refl _)
        rw [ev_self,Nat.one_mul] at q
        omega
    · constructor
      · intro u
        have q:=u.at x (by omega) (Int.le_refl _)
        rw [ev_self] at q
        omega
      · intro u
        have q:=u.at x (by omega) (Int.le_refl _)
        rw [ev_self,Nat.one_mul] at q
        omega
 unfold Up
 rw [key.1,key.2]
theorem div_rd {F:Ieee.Format}{f T:Nat}{L:Int}(h:FmtN F f T L) {x y:Nat}(hx:x<T * 2 ^ f) (hy:y<T * 2 ^ f) (x0:x ≠ 0) (y0:y ≠ 0):F.div x y=some (rdA f T L (mt f x) (mt f y) (xp f L x - xp f L y) false).1:=by
 have mne:∀ {b:Nat},b ≠ 0 → mt f b ≠ 0:=by
  intro b b0
  unfold mt
  split
  · exact b0
  · have:=Nat.two_pow_pos f;omega
 have m0:=mne x0
 have n0:=mne y0
 unfold Ieee.Format.div
 rw [read_fin h hx,read_fin h hy,h.frac]
 generalize mt f x=m at *
 generalize mt f y=n at *
 generalize xp f L x=i at *
 generalize xp f L y=j at *
 have n0':0<n:=Nat.pos_of_ne_zero n0
 unfold Ieee.Datum.quotient
 simp only
 rw [if_neg n0]
 show some (F.nearest (false ^^ false) _ _)=_
 obtain ⟨k,hk⟩:∃ k,k=f+2+n.log2 - m.log2:=⟨_,rfl⟩
 rw [← hk,Nat.shiftLeft_eq]
 congr 1
 rw [show (false ^^ false)=false from rfl,nearest_rd h]
 have hQ:2 ^ (f+1)≤m * 2 ^ k / n:=by
  rw [Nat.le_div_iff_mul_le n0']
  have l1:2 ^ m.log2≤m:=Nat.log2_self_le m0
  have l2:n<2 ^ (n.log2+1):=Nat.lt_log2_self
  have a:=Nat.mul_le_mul_right (2 ^ k) l1
  rw [← Nat.pow_add] at a
  have b:2 ^ (f+1) * n≤2 ^ (f+1) * 2 ^ (n.log2+1):=Nat.mul_le_mul_left _ (Nat.le_of_lt l2)
  rw [← Nat.pow_add] at b
  have c:2 ^ (f+1+(n.log2+1))≤2 ^ (m.log2+k):=Nat.pow_le_pow_right (by decide) (by omega)
  omega
 have hr:m * 2 ^ k % n<n:=Nat.mod_lt _ n0'
 have eq:Eqv (m * n) (i - j) ((m * 2 ^ k / n * n+m * 2 ^ k % n) * n) (i - j - k):=by
  rw [Nat.div_add_mod']
  have:=Eqv.shl (m * n) (i - j) k
  rw [Nat.mul_right_comm] at this
  exact this
 have st:(m * 2 ^ k % n != 0).toNat=(if m * 2 ^ k % n=0 then 0 else 1):=by
  by_cases z:m * 2 ^ k % n=0
  · rw [if_pos z,z];rfl
  · rw [if_neg z,bne_iff_ne.2 z];rfl
 rw [st]
 have q0:2 * (m * 2 ^ k / n)+(if m * 2 ^ k % n=0 then 0 else 1) ≠ 0:=by
  have:=Nat.two_pow_pos (f+1)
  omega
 have r1:=rdN_RD (f:=f) (L:=L) (e:=i - j - (k:Int) - 1) h.fpos false q0 (by decide:(1:Nat) ≠ 0)
 rw [rdA_of (e:=i - j - (k:Int) - 1) h.fpos q0 (by decide) r1]
 have r2:RD f L m n (i - j) false (rdN f L (2 * (m * 2 ^ k / n)+(if m * 2 ^ k % n=0 then 0 else 1)) 1 (i - j - (k:Int) - 1) false):=by
  refine ⟨(Up_sticky n0' hr hQ eq _).2 r1.1,?_⟩
  rcases r1.2 with z | z
  · exact .inl z
  · exact .inr (fun u=>z ((Up_sticky n0' hr hQ eq _).1 u))
 rw [rdA_of h.fpos m0 n0 r2]
end Go.Proofs.YtejgpbhionadbaaGreatDoor
