/-
  Holds: UBtM UBtN UMath UBsM UUiM UScM.
-/
import Derived.Test.YtejgpbhionadbaaGreatDoorXl0
set_option maxRecDepth 100000
set_option maxHeartbeats 4000000
namespace Go.Proofs.YtejgpbhionadbaaGreatDoor
def ev (K:Int) (m:Nat) (e:Int):Nat:=m * 2 ^ (e - K).toNat
theorem aK {K' K e:Int}(m:Nat) (h:K'<=K) (h2:K<=e):ev K' m e=ev K m e * 2 ^ (K - K').toNat:=by
 unfold ev
 rw [Nat.mul_assoc,<- Nat.pow_add]
 have:(e - K').toNat=(e - K).toNat+(K - K').toNat:=by omega
 rw [this]
def Eqv (m:Nat) (e:Int) (M:Nat) (E:Int):Prop:=∃ K,K<=e/\K<=E/\ev K m e=ev K M E
theorem Eqv.all {m M:Nat}{e E:Int}(h:Eqv m e M E) (K':Int) (h1:K'<=e) (h2:K'<=E):ev K' m e=ev K' M E:=by
 obtain ⟨K,a,b,q⟩:=h
 rcases Int.le_total K' K with c | c
 . rw [aK m c a,aK M c b,q]
 . exact Nat.eq_of_mul_eq_mul_right (Nat.two_pow_pos (K' - K).toNat) (by rw [<- aK m c h1,<- aK M c h2,q])
theorem Eqv.rfl' (m:Nat) (e:Int):Eqv m e m e:=⟨e,Int.le_refl e,Int.le_refl e,rfl⟩
theorem Eqv.symm {m M:Nat}{e E:Int}(h:Eqv m e M E):Eqv M E m e:=by
 obtain ⟨K,a,b,q⟩:=h
 exact ⟨K,b,a,q.symm⟩
theorem Eqv.trans {m M M':Nat}{e E E':Int}(h:Eqv m e M E) (h':Eqv M E M' E'):Eqv m e M' E':=by
 refine ⟨min e (min E E'),by omega,by omega,?_⟩
 rw [h.all _ (by omega) (by omega),h'.all _ (by omega) (by omega)]
theorem Eqv.dn {m M:Nat}{e E:Int}(h:Eqv m e M E) (c:e<=E):m=M * 2 ^ (E - e).toNat:=by
 have:=h.all e (Int.le_refl e) c
 unfold ev at this
 rw [Int.sub_self] at this
 simpa using this
theorem Eqv.up {m M:Nat}{e E:Int}(h:Eqv m e M E) (c:E<=e):M=m * 2 ^ (e - E).toNat:=h.symm.dn c
theorem Eqv.of_dn {m M:Nat}{e E:Int}(c:e<=E) (h:m=M * 2 ^ (E - e).toNat):Eqv m e M E:=by
 refine ⟨e,Int.le_refl e,c,?_⟩
 unfold ev
 rw [Int.sub_self,h]
 simp
theorem Eqv.half {m:Nat}(e:Int) (h:m % 2=0):Eqv m e (m / 2) (e+1):=by
 refine Eqv.of_dn (by omega) ?_
 rw [show (e+1 - e).toNat=1 by omega]
 omega
theorem Eqv.twice (m:Nat) (e:Int):Eqv m e (m * 2) (e - 1):=by
 refine (Eqv.of_dn (by omega) ?_).symm
 rw [show (e - (e - 1)).toNat=1 by omega]
theorem Eqv.shl (m:Nat) (e:Int) (k:Nat):Eqv m e (m * 2 ^ k) (e - k):=by
 refine (Eqv.of_dn (by omega) ?_).symm
 rw [show (e - (e - (k:Int))).toNat=k by omega]
theorem Eqv.pos {m M:Nat}{e E:Int}(h:Eqv m e M E) (c:m ≠ 0):M ≠ 0:=by
 obtain ⟨K,a,b,q⟩:=h
 unfold ev at q
 intro hM
 rw [hM,Nat.zero_mul] at q
 have:=Nat.mul_pos (Nat.pos_of_ne_zero c) (Nat.two_pow_pos (e - K).toNat)
 omega
def Fin2 (f:Nat) (L:Int) (M:Nat) (E:Int):Prop:=¬ (M<2 ^ f/\L<E)/\(M % 2=1 \/ (M<2 ^ (f+1)/\L<=E))
def Good (f:Nat) (L:Int) (M:Nat) (E:Int):Prop:=M<2 ^ (f+1)/\L<=E/\(2 ^ f<=M \/ E=L)
def out (f:Nat) (t:Int) (L:Int) (M:Nat) (E:Int):Option Nat :=
 if 2 ^ (f+1)<=M \/ E<L \/ (2 ^ f<=M/\t<=E - L+1) then none
 else if M<2 ^ f then some M else some ((E - L+1).toNat * 2 ^ f+(M - 2 ^ f))
theorem Good.fin {f:Nat}{L:Int}{M:Nat}{E:Int}(h:Good f L M E):Fin2 f L M E:=by
 obtain ⟨a,b,c⟩:=h
 refine ⟨?_,.inr ⟨a,b⟩⟩
 rintro ⟨x,y⟩
 rcases c with c | c <;> omega
theorem Fin2.cases {f:Nat}{L:Int}{M:Nat}{E:Int}(h:Fin2 f L M E):Good f L M E \/ (M % 2=1/\(2 ^ (f+1)<=M \/ E<L)):=by
 obtain ⟨a,b⟩:=h
 by_cases g:M<2 ^ (f+1)/\L<=E
 . refine .inl ⟨g.1,g.2,?_⟩
   by_cases k:2 ^ f<=M
   . exact .inl k
   . right
     have:¬ L<E:=fun y=>a ⟨by omega,y⟩
     omega
 . right
   refine ⟨?_,?_⟩
   . rcases b with b | b
     . exact b
     . exact absurd b g
   . by_cases k:M<2 ^ (f+1)
     . right
       have:¬ L<=E:=fun y=>g ⟨k,y⟩
       omega
     . left
       omega
theorem aCV {k:Nat}(h:0<k):2<=2 ^ k:=by
 calc 2=2 ^ 1:=rfl
  _<=2 ^ k:=Nat.pow_le_pow_right (by decide) h
theorem Good.uniq_dn {f:Nat}{L:Int}{M M':Nat}{E E':Int}(h:Good f L M E) (h':Good f L M' E') (q:Eqv M E M' E') (c:E<=E'):M=M'/\E=E':=by
 have d:=q.dn c
 rcases Int.lt_or_eq_of_le c with c' | c'
 . exfalso
   obtain ⟨a1,a2,a3⟩:=h
   obtain ⟨b1,b2,b3⟩:=h'
   have hm:2 ^ f<=M':=by
    rcases b3 with b3 | b3
    . exact b3
    . omega
   have:=aCV (k:=(E' - E).toNat) (by omega)
   have h2:M' * 2<=M:=by
    rw [d]
    exact Nat.mul_le_mul_left M' this
   rw [Nat.pow_succ] at a1
   omega
 . subst c'
   rw [Int.sub_self] at d
   exact ⟨by simpa using d,rfl⟩
theorem Good.uniq {f:Nat}{L:Int}{M M':Nat}{E E':Int}(h:Good f L M E) (h':Good f L M' E') (q:Eqv M E M' E'):M=M'/\E=E':=by
 rcases Int.le_total E E' with c | c
 . exact h.uniq_dn h' q c
 . obtain ⟨a,b⟩:=h'.uniq_dn h q.symm c
   exact ⟨a.symm,b.symm⟩
theorem Good.not_bad {f:Nat}{L:Int}{M M':Nat}{E E':Int}(h:Good f L M E) (q:Eqv M E M' E') (o:M' % 2=1):¬ (2 ^ (f+1)<=M' \/ E'<L):=by
 obtain ⟨a1,a2,a3⟩:=h
 have key:E<=E':=by
  rcases Int.le_total E E' with c | c
  . exact c
  . have d:=q.up c
    by_cases z:(E - E').toNat=0
    . omega
    . exfalso
      obtain ⟨k,hk⟩:∃ k,(E - E').toNat=k+1:=⟨(E - E').toNat - 1,by omega⟩
      rw [hk,Nat.pow_succ,<- Nat.mul_assoc] at d
      omega
 have d:=q.dn key
 have:M'<=M:=by
  rw [d]
  exact Nat.le_mul_of_pos_right M' (Nat.two_pow_pos _)
 omega
theorem cQ {f:Nat}{t L:Int}{M:Nat}{E:Int}(h:2 ^ (f+1)<=M \/ E<L):out f t L M E=none:=by
 unfold out
 rw [if_pos]
 rcases h with h | h
 . exact .inl h
 . exact .inr (.inl h)
theorem aG8 {f:Nat}{t L:Int}{M M':Nat}{E E':Int}(h:Fin2 f L M E) (h':Fin2 f L M' E') (q:Eqv M E M' E'):out f t L M E=out f t L M' E':=by
 rcases h.cases with g | ⟨o,b⟩
 . rcases h'.cases with g' | ⟨o',b'⟩
   . obtain ⟨a,b⟩:=g.uniq g' q
     rw [a,b]
   . exact absurd b' (g.not_bad q o')
 . rcases h'.cases with g' | ⟨o',b'⟩
   . exact absurd b (g'.not_bad q.symm o)
   . rw [cQ b,cQ b']
def PK (f:Nat) (t L:Int) (m:Nat) (e:Int) (r:Option Nat):Prop:=∃ M E,Eqv m e M E/\Fin2 f L M E/\r=out f t L M E
theorem PK.uniq {f:Nat}{t L:Int}{m m':Nat}{e e':Int}{r r':Option Nat}(h:PK f t L m e r) (h':PK f t L m' e' r') (q:Eqv m e m' e'):r=r':=by
 obtain ⟨M,E,a,b,rfl⟩:=h
 obtain ⟨M',E',a',b',rfl⟩:=h'
 exact aG8 b b' (a.symm.trans (q.trans a'))
def Mid (f:Nat) (L:Int) (M:Nat) (E:Int):Prop:=M % 2=1 \/ (M<2 ^ (f+1)/\L<=E)
theorem Mid.step {f:Nat}{L:Int}{M:Nat}{E:Int}(g:M<2 ^ f/\L<E):Mid f L (M * 2) (E - 1):=by
 refine .inr ⟨?_,by omega⟩
 rw [Nat.pow_succ]
 omega
def nm1:Nat -> Nat -> Int -> Nat × Int
 | 0,m,e=>(m,e)
 | k+1,m,e=>if m % 2=1 then (m,e) else nm1 k (m / 2) (e+1)
theorem aLd    : ∀ (k m : Nat) (e : Int), m ≠ 0 → m ≤ k → Eqv m e (nm1 k m e).1 (nm1 k m e).2 ∧ (nm1 k m e).1 % 2 = 1 := by
  intro k
  induction k with
  | zero =>
    intro m e h c
    omega
  | succ k ih =>
    intro m e h c
    by_cases o : m % 2 = 1
    · have q : nm1 (k + 1) m e = (m, e) := if_pos o
      rw [q]
      exact ⟨Eqv.rfl' m e, o⟩
    · have q : nm1 (k + 1) m e = nm1 k (m / 2) (e + 1) := if_neg o
      rw [q]
      obtain ⟨a, b⟩ := ih (m / 2) (e + 1) (by omega) (by omega)
      exact ⟨(Eqv.half e (by omega)).trans a, b⟩
def nm2 (f:Nat) (L:Int):Nat -> Nat -> Int -> Nat × Int
 | 0,m,e=>(m,e)
 | k+1,m,e=>if m<2 ^ f/\L<e then nm2 f L k (m * 2) (e - 1) else (m,e)
theorem aLe    (f : Nat) (L : Int) : ∀ (k m : Nat) (e : Int), (e - L).toNat = k → m ≠ 0 → Mid f L m e → Eqv m e (nm2 f L k m e).1 (nm2 f L k m e).2 ∧ Fin2 f L (nm2 f L k m e).1 (nm2 f L k m e).2 := by
  intro k
  induction k with
  | zero =>
    intro m e hk h c
    have q : nm2 f L 0 m e = (m, e) := rfl
    rw [q]
    refine ⟨Eqv.rfl' m e, ?_, c⟩
    intro y
    have := y.2
    simp only at this
    omega
  | succ k ih =>
    intro m e hk h c
    by_cases g : m < 2 ^ f ∧ L < e
    · have q : nm2 f L (k + 1) m e = nm2 f L k (m * 2) (e - 1) := if_pos g
      rw [q]
      obtain ⟨a, b⟩ := ih (m * 2) (e - 1) (by omega) (by omega) (Mid.step g)
      exact ⟨(Eqv.twice m e).trans a, b⟩
    · have q : nm2 f L (k + 1) m e = (m, e) := if_neg g
      rw [q]
      exact ⟨Eqv.rfl' m e, g, c⟩
def pk (f:Nat) (t L:Int) (m:Nat) (e:Int):Option Nat :=
 out f t L (nm2 f L ((nm1 m m e).2 - L).toNat (nm1 m m e).1 (nm1 m m e).2).1 (nm2 f L ((nm1 m m e).2 - L).toNat (nm1 m m e).1 (nm1 m m e).2).2
theorem PK.ex (f:Nat) (t L:Int) {m:Nat}(e:Int) (h:m ≠ 0):PK f t L m e (pk f t L m e):=by
 obtain ⟨a,b⟩:=aLd m m e h (Nat.le_refl m)
 obtain ⟨a',c'⟩:=aLe f L _ (nm1 m m e).1 (nm1 m m e).2 rfl (a.pos h) (.inl b)
 exact ⟨_,_,a.trans a',c',rfl⟩
theorem PK.eq {f:Nat}{t L:Int}{m:Nat}{e:Int}{r:Option Nat}(m0:m ≠ 0) (h:PK f t L m e r):pk f t L m e=r :=
 PK.uniq (PK.ex f t L e m0) h (Eqv.rfl' m e)
theorem gP {f:Nat}{t L:Int}{m M:Nat}{e E:Int}(h:m ≠ 0) (q:Eqv m e M E):pk f t L m e=pk f t L M E:=by
 exact PK.uniq (PK.ex f t L e h) (PK.ex f t L E (q.pos h)) q
theorem jT {f:Nat}{t L:Int}{M:Nat}{E:Int}(m0:M ≠ 0) (h:Fin2 f L M E):pk f t L M E=out f t L M E :=
 PK.eq m0 ⟨M,E,Eqv.rfl' M E,h,rfl⟩
def mt (f:Nat) (b:Nat):Nat:=if b / 2 ^ f=0 then b else b % 2 ^ f+2 ^ f
def xp (f:Nat) (L:Int) (b:Nat):Int:=if b / 2 ^ f=0 then L else L+((b / 2 ^ f:Nat):Int) - 1
theorem kN (f:Nat) (L:Int) (b:Nat):Good f L (mt f b) (xp f L b):=by
 unfold mt xp
 have p:=Nat.two_pow_pos f
 by_cases h:b / 2 ^ f=0
 . rw [if_pos h,if_pos h]
   have:b<2 ^ f:=by
    rcases Nat.div_eq_zero_iff.1 h with h | h <;> omega
   refine ⟨?_,Int.le_refl L,.inr rfl⟩
   rw [Nat.pow_succ]
   omega
 . rw [if_neg h,if_neg h]
   have:=Nat.mod_lt b p
   refine ⟨?_,?_,.inl (by omega)⟩
   . rw [Nat.pow_succ]
     omega
   . generalize b / 2 ^ f=q at h ⊢
     omega
def ln (m:Nat):Nat:=if m=0 then 0 else m.log2+1
theorem nX (m:Nat):m<2 ^ ln m:=by
 unfold ln
 split
 . rename_i h
   rw [h]
   decide
 . exact Nat.lt_log2_self
theorem kC {m:Nat}(h:m ≠ 0):2 ^ (ln m - 1)<=m:=by
 unfold ln
 rw [if_neg h]
 exact Nat.log2_self_le h
theorem aE (m k:Nat):ln m<=k ↔ m<2 ^ k:=by
 constructor
 . intro h
   exact Nat.lt_of_lt_of_le (nX m) (Nat.pow_le_pow_right (by decide) h)
 . intro h
   unfold ln
   split
   . exact Nat.zero_le k
   . rename_i z
     have:=(Nat.log2_lt z).2 h
     omega
theorem qO {m:Nat}(h:m ≠ 0):0<ln m:=by
 unfold ln
 rw [if_neg h]
 omega
theorem aCl {m k:Nat}(h:2 ^ k<=m) (h':m<2 ^ (k+1)):ln m=k+1:=by
 have a:=(aE m (k+1)).2 h'
 have b:¬ ln m<=k:=fun x=>absurd ((aE m k).1 x) (by omega)
 omega
theorem mH {m:Nat}(h:m ≠ 0) (s:Nat):ln (m * 2 ^ s)=ln m+s:=by
 have lp:=qO h
 obtain ⟨k,hk⟩:∃ k,ln m=k+1:=⟨ln m - 1,by omega⟩
 have a:=nX m
 have b:=kC h
 rw [hk] at a b
 rw [Nat.add_sub_cancel] at b
 have:=aCl (m:=m * 2 ^ s) (k:=k+s) (by rw [Nat.pow_add];exact Nat.mul_le_mul_right _ b) (by rw [show k+s+1=(k+1)+s by omega,Nat.pow_add];exact Nat.mul_lt_mul_of_pos_right a (Nat.two_pow_pos s))
 omega
def aD (x:Int):Prop:=0<=x/\x<18446744073709551616
def lL (x y c:Int):Int:=(x+y+c) % 18446744073709551616
def a3C (x y c:Int):Int:=(x+y+c) / 18446744073709551616
def aAt (x y b:Int):Int:=(x - y - b) % 18446744073709551616
def s3B (x y b:Int):Int:=if x<y+b then 1 else 0
theorem aC0 {x y c:Int}(hx:aD x) (hy:aD y) (hc0:0<=c) (hc:c<=1):0<=a3C x y c/\a3C x y c<=1:=by
 unfold aD at hx hy;unfold a3C;omega
def sHi (ah al bh bl:Int):Int:=lL ah bh (a3C al bl 0)
def sLo (al bl:Int):Int:=lL al bl 0
def sOv (ah al bh bl:Int):Bool:=a3C ah bh (a3C al bl 0) != 0
def mHi (x y:Int):Int:=x * y / 18446744073709551616
def mLo (x y:Int):Int:=x * y % 18446744073709551616
def nY (h l b:Int):Int:=mHi h b+a3C (mLo h b) (mHi l b) 0
def aCo (h l b:Int):Int:=lL (mLo h b) (mHi l b) 0
theorem aEz {x y:Int}(hx:aD x) (hy:aD y):0<=x * y/\x * y<=18446744073709551615 * 18446744073709551615:=by
 unfold aD at *
 exact ⟨Int.mul_nonneg hx.1 hy.1,Int.mul_le_mul (by omega) (by omega) hy.1 (by omega)⟩
theorem zC {x y:Int}(hx:aD x) (hy:aD y):0<=mHi x y/\mHi x y<=18446744073709551614:=by
 have h:=aEz hx hy
 unfold mHi
 generalize x * y=p at *
 omega
theorem qP {x y:Int}(hx:aD x) (hy:aD y):aD (mHi x y):=by
 have h:=zC hx hy
 unfold aD;omega
theorem zD (x y:Int):aD (mLo x y):=by unfold aD mLo;omega
theorem aCp {h l b:Int}(hh:aD h) (hl:aD l) (hb:aD b):aD (nY h l b):=by
 have h1:=zC hh hb
 have h2:=aC0 (zD h b) (qP hl hb) (Int.le_refl 0) (by omega:(0:Int)<=1)
 unfold aD nY;omega
def dv (c:Nat):Nat:=if 48<=c/\c<=57 then c - 48 else if 97<=c/\c<=122 then c - 87 else if 65<=c/\c<=90 then c - 55 else 36
def isD (b:Nat) (c:UInt8):Bool:=decide (dv c.toNat<b)
def vN (c:Nat):Int:=if dv c<36 then (dv c:Int) else 0
def vB (c:Nat):Bool:=decide (dv c<36)
theorem jN (b:Nat) (h:b<=36):isD b 95=false:=by
 unfold isD
 rw [show dv (95:UInt8).toNat=36 by decide]
 exact decide_eq_false (by omega)
def bt (s:ByteArray) (i:Nat):Nat:=if h:i<s.size then (s[i]'h).toNat else 256
theorem nS {s:ByteArray}{i:Nat}(h:i<s.size):bt s i=(s[i]'h).toNat:=by unfold bt;rw [dif_pos h]
theorem pX {s:ByteArray}{i:Nat}(h:¬ i<s.size):bt s i=256:=by unfold bt;rw [dif_neg h]
def pfB (x y:Nat):Int:=if x=48/\y<256 then (if y=98 \/ y=66 then 2 else if y=120 \/ y=88 then 16 else 8) else 10
def pfN (x y:Nat):Int:=if x=48/\y<256 then (if y=98 \/ y=66 \/ y=111 \/ y=79 \/ y=120 \/ y=88 then 2 else 1) else 0
def hdD (b:Nat):List UInt8 -> Bool
 | []=>false
 | d :: _=>isD b d
def cgo (b:Nat):Bool -> List UInt8 -> Option (List UInt8)
 | _,[]=>some []
 | j,c :: r=>if isD b c=true then (cgo b true r).map (c :: ·) else if c=95/\j=true/\hdD b r=true then cgo b false r else none
def fP (b:Nat) (pre:Bool) (l:List UInt8):Option (List UInt8) :=
 match cgo b pre l with
 | some (x :: r)=>some (x :: r)
 | _=>none
theorem pZ {b:Nat}{pre:Bool}{l o:List UInt8}(h:cgo b pre l=some o) (ho:o ≠ []):fP b pre l=some o:=by
 unfold fP;rw [h]
 cases o with
 | nil=>exact absurd rfl ho
 | cons x r=>rfl
theorem aDq {b:Nat}{pre:Bool}{l:List UInt8}(h:cgo b pre l=some []):fP b pre l=none:=by unfold fP;rw [h]
theorem gB {b:Nat}{pre:Bool}{l:List UInt8}(h:cgo b pre l=none):fP b pre l=none:=by unfold fP;rw [h]
theorem lS {b:Nat}{j:Bool}{c:UInt8}{r:List UInt8}(h:isD b c=true):cgo b j (c :: r)=(cgo b true r).map (c :: ·):=by
 show (if _ then _ else _)=_;rw [if_pos h]
theorem aBf {b:Nat}{c:UInt8}{r:List UInt8}(h:isD b c=false) (h1:c=95) (h2:hdD b r=true):cgo b true (c :: r)=cgo b false r:=by
 show (if _ then _ else _)=_;rw [if_neg (by rw [h];decide),if_pos ⟨h1,rfl,h2⟩]
theorem aBe {b:Nat}{j:Bool}{c:UInt8}{r:List UInt8}(h:isD b c=false) (h1:¬ (c=95/\j=true/\hdD b r=true)):cgo b j (c :: r)=none:=by
 show (if _ then _ else _)=_;rw [if_neg (by rw [h];decide),if_neg h1]
def cG (b:Nat) (p j:Bool) (r:List UInt8):Option (List UInt8):=if p=true then (if hdD b r=true then cgo b false r else none) else cgo b j r
theorem aGb (b:Nat) (j:Bool) (r:List UInt8):cG b false j r=cgo b j r:=rfl
theorem aGa {b:Nat}{p j:Bool}{c:UInt8}{r:List UInt8}(h:isD b c=true):cG b p j (c :: r)=(cG b false true r).map (c :: ·):=by
 cases p with
 | false=>exact lS h
 | true=>show (if isD b c=true then _ else _)=_;rw [if_pos h];exact lS h
theorem aKr {b:Nat}{c:UInt8}{r:List UInt8}(h:isD b c=false) (h1:c=95):cG b false true (c :: r)=cG b true false r:=by
 show cgo b true (c :: r)=if hdD b r=true then cgo b false r else none
 by_cases q:hdD b r=true
 . rw [if_pos q];exact aBf h h1 q
 . rw [if_neg q];exact aBe h (fun z=>q z.2.2)
theorem aDn {b:Nat}{p j:Bool}{c:UInt8}{r:List UInt8}(h:isD b c=false) (h1:¬ (c=95/\j=true)):cG b p j (c :: r)=none:=by
 cases p with
 | false=>exact aBe h (fun z=>h1 ⟨z.1,z.2.1⟩)
 | true=>show (if isD b c=true then _ else _)=_;rw [if_neg (by rw [h];decide)]
theorem aGS {m:Option (List UInt8)}{x:Option (List UInt8)}{o:List UInt8}{c:UInt8}(h:m=((x.map (c :: ·)).map (o ++ ·))):m=x.map ((o ++ [c]) ++ ·):=by
 rw [h];cases x with
 | none=>rfl
 | some y=>simp
def hdn (b:Nat):List UInt8 -> Nat
 | []=>0
 | c :: r=>if isD b c=true then hdn b r+1 else 0
theorem gM {b:Nat}{c:UInt8}{r:List UInt8}(h:isD b c=true):hdn b (c :: r)=hdn b r+1:=by show (if _ then _ else _)=_;rw [if_pos h]
theorem lX {b:Nat}{c:UInt8}{r:List UInt8}(h:isD b c=false):hdn b (c :: r)=0:=by show (if _ then _ else _)=_;rw [if_neg (by rw [h];decide)]
theorem bN (s:ByteArray) {k:Nat}(h:k<s.size):s.data.toList.drop k=(s[k]'h) :: s.data.toList.drop (k+1):=by
 have hl:k<s.data.toList.length:=by simpa using h
 rw [List.drop_eq_getElem_cons hl];rfl
theorem bP (s:ByteArray) {k:Nat}(h:¬ k<s.size):s.data.toList.drop k=[]:=List.drop_eq_nil_of_le (by simpa using (show s.size<=k by omega))
def avs (b a:Nat) (c:UInt8):Nat:=if dv c.toNat<36 then a * b+dv c.toNat else a
def av (b a:Nat):List UInt8 -> Nat
 | []=>a
 | c :: r=>av b (avs b a c) r
theorem jG (b a:Nat) (c:UInt8) (r:List UInt8):av b a (c :: r)=av b (avs b a c) r:=rfl
theorem lO (b:Nat):∀ (l:List UInt8) (a:Nat) (m:List UInt8),av b a (l ++ m)=av b (av b a l) m
 | [],_,_=>rfl
 | c :: r,a,m=>by rw [List.cons_append,jG,jG,lO b r]
theorem jH {b a:Nat}{c:UInt8}(h:dv c.toNat<36):avs b a c=a * b+dv c.toNat:=by unfold avs;rw [if_pos h]
def rch (b:Nat):Bool -> List UInt8 -> Nat
 | _,[]=>0
 | j,c :: r=>if isD b c=true then rch b true r+1 else if c=95/\j=true/\hdD b r=true then rch b false r+1 else 0
theorem bB {b:Nat}{j:Bool}{c:UInt8}{r:List UInt8}(h:isD b c=true):rch b j (c :: r)=rch b true r+1:=by
 show (if _ then _ else _)=_;rw [if_pos h]
theorem fF {b:Nat}{j:Bool}{c:UInt8}{r:List UInt8}(h:isD b c=false) (h1:c=95) (hj:j=true) (h2:hdD b r=true):rch b j (c :: r)=rch b false r+1:=by
 show (if _ then _ else _)=_;rw [if_neg (by rw [h];decide),if_pos ⟨h1,hj,h2⟩]
theorem cR {b:Nat}{j:Bool}{c:UInt8}{r:List UInt8}(h:isD b c=false) (h1:¬ (c=95/\j=true/\hdD b r=true)):rch b j (c :: r)=0:=by
 show (if _ then _ else _)=_;rw [if_neg (by rw [h];decide),if_neg h1]
theorem aAe {b:Nat}{j:Bool}{l:List UInt8}(h:hdD b l=true):0<rch b j l:=by
 cases l with
 | nil=>cases h
 | cons c r=>rw [bB h];omega
theorem bT     (b : Nat) : ∀ (l : List UInt8) (j : Bool), rch b j l ≤ l.length
  | [], _ => Nat.le_refl _
  | c :: r, j => by
    by_cases q : isD b c = true
    · rw [bB        q]; have := bT     b r true; simp; omega
    · have q' : isD b c = false := by simpa using q
      by_cases z : c = 95 ∧ j = true ∧ hdD b r = true
      · rw [fF      q' z.1 z.2.1 z.2.2]; have := bT     b r false; simp; omega
      · rw [cR      q' z]; omega
theorem aD8       {b k : Nat} {r : List UInt8} (hk : 0 < k) (h : hdD b r = true) : hdD b (r.take k) = true := by
  cases k with
  | zero => omega
  | succ k => cases r with
    | nil => cases h
    | cons c t => exact h
theorem yN     (b : Nat) : ∀ l, hdn b l ≤ l.length
  | [] => Nat.le_refl _
  | c :: r => by
    by_cases q : isD b c = true
    · rw [gM      q]; have := yN     b r; simp; omega
    · rw [lX     (by simpa using q)]; omega
def sB (l:List UInt8):ByteArray:=⟨l.toArray⟩
theorem aA (l:List UInt8):(sB l).size=l.length:=rfl
theorem bR (l:List UInt8):(sB l).data.toList=l:=rfl
theorem aDc (l:List UInt8) (a b:Nat):(sB l).extract a b=sB ((l.take b).drop a):=by
 apply ByteArray.ext
 rw [ByteArray.data_extract]
 apply Array.toList_inj.1
 show ((l.toArray).extract a b).toList=_
 rw [Array.toList_extract]
 show (l.drop a).take (b - a)=(l.take b).drop a
 rw [List.drop_take]
theorem aJ (l:List UInt8) (a:Nat):(sB l).extract a (sB l).size=sB (l.drop a):=by
 rw [aDc,aA,List.take_length]
theorem eO (l:List UInt8) (b:Nat):(sB l).extract 0 b=sB (l.take b):=by
 rw [aDc,List.drop_zero]
def sml (c:UInt8):UInt8:=if 65<=c.toNat/\c.toNat<=90 then c+32 else c
def wdB:List UInt8 -> List UInt8 -> Bool
 | [],_=>true
 | _ :: _,[]=>false
 | d :: t,c :: r=>(sml c == d) && wdB t r
def hdC:List UInt8 -> Nat
 | []=>256
 | c :: _=>c.toNat
def rdg (b:Nat):Bool -> List UInt8 -> List UInt8
 | _,[]=>[]
 | j,c :: r=>if isD b c=true then c :: rdg b true r else if c=95/\j=true/\hdD b r=true then rdg b false r else []
theorem bM {b:Nat}{j:Bool}{c:UInt8}{r:List UInt8}(h:isD b c=true):rdg b j (c :: r)=c :: rdg b true r:=by
 show (if _ then _ else _)=_;rw [if_pos h]
theorem gR {b:Nat}{j:Bool}{c:UInt8}{r:List UInt8}(h:isD b c=false) (h1:c=95) (hj:j=true) (h2:hdD b r=true):rdg b j (c :: r)=rdg b false r:=by
 show (if _ then _ else _)=_;rw [if_neg (by rw [h];decide),if_pos ⟨h1,hj,h2⟩]
theorem fH {b:Nat}{j:Bool}{c:UInt8}{r:List UInt8}(h:isD b c=false) (h1:¬ (c=95/\j=true/\hdD b r=true)):rdg b j (c :: r)=[]:=by
 show (if _ then _ else _)=_;rw [if_neg (by rw [h];decide),if_neg h1]
theorem aLx {b:Nat}{j:Bool}{l:List UInt8}(h:hdD b l=true):rdg b j l ≠ []:=by
 cases l with
 | nil=>cases h
 | cons c r=>rw [bM h];simp
theorem dI      {b : Nat} {j : Bool} {l : List UInt8} : rdg b j l = [] ↔ rch b j l = 0 := by
  cases l with
  | nil => exact ⟨fun _ => rfl, fun _ => rfl⟩
  | cons c r =>
    by_cases q : isD b c = true
    · rw [bM        q, bB        q]; simp
    · have q' : isD b c = false := by simpa using q
      by_cases z : c = 95 ∧ j = true ∧ hdD b r = true
      · rw [gR      q' z.1 z.2.1 z.2.2, fF      q' z.1 z.2.1 z.2.2]
        have := aLx    (j := false) z.2.2
        constructor
        · intro h; exact absurd h this
        · intro h; omega
      · rw [fH      q' z, cR      q' z]; simp
theorem fI      {b : Nat} : ∀ (l : List UInt8) (j : Bool) (c : UInt8), c ∈ rdg b j l → isD b c = true
  | [], _, _, h => by cases h
  | x :: r, j, c, h => by
    by_cases q : isD b x = true
    · rw [bM        q] at h
      rcases List.mem_cons.1 h with z | z
      · rw [z]; exact q
      · exact fI      r true c z
    · have q' : isD b x = false := by simpa using q
      by_cases z : x = 95 ∧ j = true ∧ hdD b r = true
      · rw [gR      q' z.1 z.2.1 z.2.2] at h
        exact fI      r false c h
      · rw [fH      q' z] at h; cases h
theorem sU      {b : Nat} : ∀ (l : List UInt8) (j : Bool), cgo b j (l.take (rch b j l)) = some (rdg b j l)
  | [], _ => rfl
  | c :: r, j => by
    by_cases q : isD b c = true
    · rw [bB        q, List.take_succ_cons, lS        q, sU      r true, bM        q]; rfl
    · have q' : isD b c = false := by simpa using q
      by_cases z : c = 95 ∧ j = true ∧ hdD b r = true
      · have hz := aD8       (aAe    (j := false) z.2.2) z.2.2
        rw [fF      q' z.1 z.2.1 z.2.2, List.take_succ_cons, z.2.1, aBf     q' z.1 hz, sU      r false, gR      q' z.1 rfl z.2.2]
      · rw [cR      q' z, fH      q' z]; rfl
theorem gS      {b : Nat} : ∀ (l : List UInt8) (j : Bool), (rdg b j l).length ≤ rch b j l
  | [], _ => Nat.le_refl _
  | c :: r, j => by
    by_cases q : isD b c = true
    · rw [bB        q, bM        q]; have := gS      (b := b) r true; simp; omega
    · have q' : isD b c = false := by simpa using q
      by_cases z : c = 95 ∧ j = true ∧ hdD b r = true
      · rw [fF      q' z.1 z.2.1 z.2.2, gR      q' z.1 z.2.1 z.2.2]; have := gS      (b := b) r false; omega
      · rw [cR      q' z, fH      q' z]; exact Nat.le_refl _
theorem aDr {b:Nat}{l:List UInt8}:fP b false (l.take (rch b false l))=if rch b false l=0 then none else some (rdg b false l):=by
 by_cases h:rch b false l=0
 . rw [if_pos h,h,List.take_zero];rfl
 . rw [if_neg h]
   exact pZ (sU l false) (fun z=>h (dI.1 z))
theorem sR      {b : Nat} : ∀ (l : List UInt8) (j : Bool), 0 < hdn b l → rch b j l = hdn b l + rch b true (l.drop (hdn b l))
  | [], _, h => absurd h (by simp [hdn])
  | c :: r, j, h => by
    by_cases q : isD b c = true
    · rw [gM      q, bB        q, List.drop_succ_cons]
      by_cases z : hdn b r = 0
      · rw [z, List.drop_zero]; omega
      · have := sR      (b := b) r true (by omega)
        omega
    · rw [lX     (by simpa using q)] at h; omega
theorem aAf      {b : Nat} {l : List UInt8} (h : hdn b l = 0) : rch b false l = 0 := by
  cases l with
  | nil => rfl
  | cons c r =>
    by_cases q : isD b c = true
    · rw [gM      q] at h; omega
    · exact cR      (by simpa using q) (fun z => by cases z.2.1)
theorem sJ      {b : Nat} {l : List UInt8} : hdD b l = true ↔ 0 < hdn b l := by
  cases l with
  | nil => simp [hdD, hdn]
  | cons c r =>
    by_cases q : isD b c = true
    · rw [gM      q]; exact ⟨fun _ => by omega, fun _ => q⟩
    · have q' : isD b c = false := by simpa using q
      rw [lX     q']
      constructor
      · intro h; rw [show hdD b (c :: r) = isD b c from rfl, q'] at h; cases h
      · intro h; omega
theorem pG       {b : Nat} : ∀ (l : List UInt8), hdD b (l.drop (hdn b l)) = false
  | [] => rfl
  | c :: r => by
    by_cases q : isD b c = true
    · rw [gM      q, List.drop_succ_cons]; exact pG       r
    · have q' : isD b c = false := by simpa using q
      rw [lX     q', List.drop_zero]; exact q'
theorem aAd      {b : Nat} (hb : b ≤ 36) {l : List UInt8} : rch b true l = if hdC l = 95 ∧ hdD b l.tail = true then rch b false l.tail + 1 else rch b false l := by
  cases l with
  | nil => rfl
  | cons c r =>
    by_cases q : isD b c = true
    · have : ¬ (hdC (c :: r) = 95 ∧ hdD b (c :: r).tail = true) := by
        rintro ⟨h, _⟩
        have : c = 95 := UInt8.toNat_inj.1 h
        rw [this, jN      b hb] at q; cases q
      rw [if_neg this, bB        q, bB        q]
    · have q' : isD b c = false := by simpa using q
      by_cases z : c = 95 ∧ hdD b r = true
      · rw [if_pos ⟨by rw [z.1]; rfl, z.2⟩, fF      q' z.1 rfl z.2]; rfl
      · have : ¬ (hdC (c :: r) = 95 ∧ hdD b (c :: r).tail = true) := by
          rintro ⟨h, h2⟩
          exact z ⟨UInt8.toNat_inj.1 h, h2⟩
        rw [if_neg this, cR      q' (fun y => z ⟨y.1, y.2.2⟩), cR      q' (fun y => by cases y.2.1)]
theorem aAj      {b : Nat} (hb : b ≤ 36) {l : List UInt8} : rdg b true l = if hdC l = 95 ∧ hdD b l.tail = true then rdg b false l.tail else rdg b false l := by
  cases l with
  | nil => rfl
  | cons c r =>
    by_cases q : isD b c = true
    · have : ¬ (hdC (c :: r) = 95 ∧ hdD b (c :: r).tail = true) := by
        rintro ⟨h, _⟩
        have : c = 95 := UInt8.toNat_inj.1 h
        rw [this, jN      b hb] at q; cases q
      rw [if_neg this, bM        q, bM        q]
    · have q' : isD b c = false := by simpa using q
      by_cases z : c = 95 ∧ hdD b r = true
      · rw [if_pos ⟨by rw [z.1]; rfl, z.2⟩, gR      q' z.1 rfl z.2]; rfl
      · have : ¬ (hdC (c :: r) = 95 ∧ hdD b (c :: r).tail = true) := by
          rintro ⟨h, h2⟩
          exact z ⟨UInt8.toNat_inj.1 h, h2⟩
        rw [if_neg this, fH      q' (fun y => z ⟨y.1, y.2.2⟩), fH      q' (fun y => by cases y.2.1)]
def mnt (b:Nat) (j:Bool) (l:List UInt8):Option (List UInt8 × List UInt8 × Nat) :=
 if hdC (l.drop (rch b j l))=46 then
  (if rch b j l+rch b false (l.drop (rch b j l+1))=0 then none else some (rdg b j l,rdg b false (l.drop (rch b j l+1)),rch b j l+1+rch b false (l.drop (rch b j l+1))))
 else (if rch b j l=0 then none else some (rdg b j l,[],rch b j l))
def sgA:List UInt8 -> Nat
 | []=>0
 | c :: _=>if c=43 \/ c=45 then 1 else 0
def sgM:List UInt8 -> Bool
 | []=>false
 | c :: _=>c == 45
theorem mW (l:List UInt8):sgA l<=l.length:=by
 cases l with
 | nil=>exact Nat.le_refl _
 | cons c r=>show (if _ then _ else _)<=_;split <;> simp
theorem gU (l:List UInt8):sgA l<=1:=by
 cases l with
 | nil=>exact Nat.zero_le _
 | cons c r=>show (if _ then _ else _)<=_;split <;> omega
def cns (a:Nat) (c:UInt8):Nat:=min (a * 10+(c.toNat - 48)) 1099511627776
def cnt (a:Nat) (l:List UInt8):Nat:=l.foldl cns a
theorem rW (a:Nat):cnt a []=a:=by unfold cnt;rw [List.foldl_nil]
theorem oZ (a:Nat) (c:UInt8) (r:List UInt8):cnt a (c :: r)=cnt (cns a c) r:=by unfold cnt;rw [List.foldl_cons]
theorem aKz (a:Nat) (c:UInt8):cns a c<=1099511627776:=by unfold cns;exact Nat.min_le_right _ _
theorem xM (l:List UInt8):∀ (a:Nat),a<=1099511627776 -> cnt a l<=1099511627776:=by
 induction l with
 | nil=>intro a h;rw [rW];exact h
 | cons c r ih=>intro a _;rw [oZ];exact ih _ (aKz a c)
def dK (r:List UInt8):Int:=if sgM r=true then -(cnt 0 (rdg 10 false (r.drop (sgA r))):Int) else (cnt 0 (rdg 10 false (r.drop (sgA r))):Int)
def exn (L:Nat):List UInt8 -> Option (Int × Nat)
 | []=>none
 | c :: r=>if (sml c).toNat=L then (if rch 10 false (r.drop (sgA r))=0 then none else some (dK r,1+sgA r+rch 10 false (r.drop (sgA r)))) else none
theorem aKI (r:List UInt8):-1099511627776<=dK r/\dK r<=1099511627776:=by
 have:=xM (rdg 10 false (r.drop (sgA r))) 0 (by omega)
 unfold dK
 split <;> omega
def pln (c:UInt8):UInt8:=if isD 10 c=true then c else 48
def nz:List UInt8 -> Nat
 | []=>0
 | c :: r=>if c=48 then nz r+1 else 0
theorem iH {r:List UInt8}:nz (48 :: r)=nz r+1:=by show (if _ then _ else _)=_;rw [if_pos rfl]
theorem iS {c:UInt8}{r:List UInt8}(h:c ≠ 48):nz (c :: r)=0:=by show (if _ then _ else _)=_;rw [if_neg h]
theorem cW    : ∀ l, nz l ≤ l.length
  | [] => Nat.le_refl _
  | c :: r => by
    by_cases h : c = 48
    · subst h; rw [iH    ]; have := cW    r; simp; omega
    · rw [iS    h]; omega
theorem kH    : ∀ (l : List UInt8) (i : Nat) (h : i < l.length), i < nz l → l[i]'h = 48
  | [], _, h, _ => absurd h (by simp)
  | c :: r, i, h, hi => by
    by_cases q : c = 48
    · cases i with
      | zero => exact q
      | succ i =>
        subst q
        rw [iH    ] at hi
        exact kH    r i (by simpa using h) (by omega)
    · rw [iS    q] at hi; omega
theorem gF    : ∀ (l : List UInt8) (h : nz l < l.length), l[nz l]'h ≠ 48
  | [], h => absurd h (by simp)
  | c :: r, h => by
    by_cases q : c = 48
    · subst q
      have e : nz (48 :: r) = nz r + 1 := iH
      have := gF    r (by rw [e] at h; simpa using h)
      simpa [e] using this
    · simpa [iS    q] using q
def trn:List UInt8 -> Nat
 | []=>0
 | c :: r=>if trn r=0/\c=48 then 0 else trn r+1
theorem dS     : ∀ l, trn l ≤ l.length
  | [] => Nat.le_refl _
  | c :: r => by
    have := dS     r
    show (if _ then _ else _) ≤ _
    split <;> simp <;> omega
theorem jX      : ∀ (l : List UInt8) (i : Nat) (h : i < l.length), trn l ≤ i → l[i]'h = 48
  | [], _, h, _ => absurd h (by simp)
  | c :: r, i, h, hi => by
    have hi' : (if trn r = 0 ∧ c = 48 then 0 else trn r + 1) ≤ i := hi
    by_cases q : trn r = 0 ∧ c = 48
    · cases i with
      | zero => exact q.2
      | succ i => exact jX      r i (by simpa using h) (by omega)
    · rw [if_neg q] at hi'
      cases i with
      | zero => omega
      | succ i => exact jX      r i (by simpa using h) (by omega)
theorem nH     : ∀ (l : List UInt8) (h0 : 0 < trn l), l[trn l - 1]'(by have := dS     l; omega) ≠ 48
  | [], h => absurd h (by simp [trn])
  | c :: r, h => by
    have e : trn (c :: r) = if trn r = 0 ∧ c = 48 then 0 else trn r + 1 := rfl
    by_cases q : trn r = 0 ∧ c = 48
    · rw [e, if_pos q] at h; omega
    · rw [if_neg q] at e
      by_cases z : trn r = 0
      · have : c ≠ 48 := fun y => q ⟨z, y⟩
        simpa [e, z] using this
      · have ih := nH     r (by omega)
        obtain ⟨k, hk⟩ : ∃ k, trn r = k + 1 := ⟨trn r - 1, by omega⟩
        simp [e, hk] at ih ⊢
        exact ih
def anz (l:List UInt8):Bool:=l.any (· != 48)
theorem aC3 {l:List UInt8}:anz l=false ↔ ∀ c ∈ l,c=48:=by unfold anz;simp
theorem rS      : ∀ l, anz l = decide (0 < trn l)
  | [] => rfl
  | c :: r => by
    have e : trn (c :: r) = if trn r = 0 ∧ c = 48 then 0 else trn r + 1 := rfl
    have a : anz (c :: r) = ((c != 48) || anz r) := by simp [anz]
    rw [a, rS      r, e]
    by_cases h : c = 48
    · by_cases z : trn r = 0 <;> simp [h, z] <;> omega
    · have : (c != 48) = true := by simp [h]
      rw [this, if_neg (fun y => h y.2)]; simp
def shT (D:List UInt8):List UInt8:=if anz (D.drop 800)=true then D.take 800 else (D.take 800).take (trn (D.take 800))
def ctI (n:Int):Int:=max (-1099511627776) (min n 1099511627776)
theorem lW (n:Int):-1099511627776<=ctI n/\ctI n<=1099511627776:=by unfold ctI;omega
def plD (W P:List UInt8):List UInt8:=(W ++ P).map pln
def dgF (W P:List UInt8):List UInt8:=(plD W P).drop (nz (plD W P))
def dcT (W P:List UInt8):List UInt8:=shT (dgF W P)
def dcP (W P:List UInt8) (e:Int):Int:=if dgF W P=[] then 0 else ctI (ctI e+W.length - nz (plD W P))
def dcC (W P:List UInt8):Bool:=anz ((dgF W P).drop 800)
def hxK (a:List UInt8):Nat:=min (nz a+16) a.length
def hxM (a:List UInt8):Nat:=av 16 0 ((a.take (hxK a)).drop (nz a))
def hxC (a:List UInt8):Bool:=anz (a.drop (hxK a))
def hxE (W P:List UInt8) (e:Int):Int:=if nz (W ++ P)=(W ++ P).length then 0 else ctI (e+4 * ((W.length:Int) - hxK (W ++ P)))
structure Pt where
 neg:Bool:=false
 kind:Int:=0
 dd:List UInt8:=[]
 dp:Int:=0
 dc:Bool:=false
 mant:Nat:=0
 exp:Int:=0
 cut:Bool:=false
def aU:List UInt8:=[105,110,102,105,110,105,116,121]
def iN:List UInt8:=[105,110,102]
def jF:List UInt8:=[110,97,110]
def pB (W P:List UInt8) (e:Int):Pt:={ kind:=1,dd:=dcT W P,dp:=dcP W P e,dc:=dcC W P }
def cV (W P:List UInt8) (e:Int):Pt:={ kind:=2,mant:=hxM (W ++ P),exp:=hxE W P e,cut:=hxC (W ++ P) }
def bJ (r:List UInt8):Option (Pt × Nat):=if wdB aU r=true then some ({ kind:=3 },8) else if wdB iN r=true then some ({ kind:=3 },3) else none
def bK (sg:Bool) (r:List UInt8):Option (Pt × Nat):=if sg=false/\wdB jF r=true then some ({ kind:=4 },3) else none
def isX (r:List UInt8):Bool:=decide (hdC r=48/\(hdC r.tail=120 \/ hdC r.tail=88))
def aQ   (r : List UInt8) : Option (Pt × Nat) :=
  if isX r = true then
    match mnt 16 true (r.drop 2) with
    | none => none
    | some (W, P, n) =>
      match exn 112 (r.drop (2 + n)) with
      | none => none
      | some (e, m) => some (cV   W P e, 2 + n + m)
  else none
def cB   (r : List UInt8) : Option (Pt × Nat) :=
  match mnt 10 false r with
  | none => none
  | some (W, P, n) =>
    match exn 101 (r.drop n) with
    | none => some (pB   W P 0, n)
    | some (e, m) => some (pB   W P e, n + m)
def bZ   (sg : Bool) (r : List UInt8) : Option (Pt × Nat) :=
  match bJ   r with
  | some x => some x
  | none => match bK   sg r with
    | some x => some x
    | none => match aQ   r with
      | some x => some x
      | none => cB   r
def pfx (l:List UInt8):Option (Pt × Nat) :=
 match bZ (decide (0<sgA l)) (l.drop (sgA l)) with
 | none=>none
 | some (p,n)=>some ({ p with neg:=sgM l },sgA l+n)
def scn (l:List UInt8):Option Pt :=
 match pfx l with
 | none=>none
 | some (p,n)=>if n=l.length then some p else none
theorem fB {b:Nat}{j:Bool}{l W P:List UInt8}{n:Nat}(h:mnt b j l=some (W,P,n)):0<n/\n<=l.length:=by
 unfold mnt at h
 have h1:=bT b l j
 have h2:=bT b (l.drop (rch b j l+1)) false
 rw [List.length_drop] at h2
 by_cases a:hdC (l.drop (rch b j l))=46
 . rw [if_pos a] at h
   have h3:rch b j l<l.length:=by
    rcases Nat.lt_or_ge (rch b j l) l.length with z | z
    . exact z
    . rw [List.drop_eq_nil_of_le z] at a;cases a
   by_cases c:rch b j l+rch b false (l.drop (rch b j l+1))=0
   . rw [if_pos c] at h;cases h
   . rw [if_neg c] at h
     injection h with h;injection h with _ h;injection h with _ h
     omega
 . rw [if_neg a] at h
   by_cases c:rch b j l=0
   . rw [if_pos c] at h;cases h
   . rw [if_neg c] at h
     injection h with h;injection h with _ h;injection h with _ h
     omega
theorem jQ {b:Nat}{j:Bool}{l W P:List UInt8}{n:Nat}(h:mnt b j l=some (W,P,n)):W.length+P.length<=l.length:=by
 unfold mnt at h
 have h1:=bT b l j
 have h2:=bT b (l.drop (rch b j l+1)) false
 rw [List.length_drop] at h2
 have h4:=gS (b:=b) l j
 have h5:=gS (b:=b) (l.drop (rch b j l+1)) false
 by_cases a:hdC (l.drop (rch b j l))=46
 . rw [if_pos a] at h
   by_cases c:rch b j l+rch b false (l.drop (rch b j l+1))=0
   . rw [if_pos c] at h;cases h
   . rw [if_neg c] at h
     injection h with h;injection h with e1 h;injection h with e2 h
     rw [<- e1,<- e2];omega
 . rw [if_neg a] at h
   by_cases c:rch b j l=0
   . rw [if_pos c] at h;cases h
   . rw [if_neg c] at h
     injection h with h;injection h with e1 h;injection h with e2 h
     rw [<- e1,<- e2];simp;omega
theorem gL      {L : Nat} {l : List UInt8} {e : Int} {m : Nat} (h : exn L l = some (e, m)) : 0 < m ∧ m ≤ l.length ∧ -1099511627776 ≤ e ∧ e ≤ 1099511627776 := by
  cases l with
  | nil => cases h
  | cons c r =>
    have h' : (if (sml c).toNat = L then (if rch 10 false (r.drop (sgA r)) = 0 then none else some (dK   r, 1 + sgA r + rch 10 false (r.drop (sgA r)))) else none) = some (e, m) := h
    have h2 := bT     10 (r.drop (sgA r)) false
    rw [List.length_drop] at h2
    have := mW     r
    by_cases a : (sml c).toNat = L
    · rw [if_pos a] at h'
      by_cases d : rch 10 false (r.drop (sgA r)) = 0
      · rw [if_pos d] at h'; cases h'
      · rw [if_neg d] at h'
        injection h' with h'; injection h' with e1 e2
        have := aKI    r
        rw [← e1, ← e2]; simp; omega
    · rw [if_neg a] at h'; cases h'
theorem oL      : ∀ (w l : List UInt8), wdB w l = true → w.length ≤ l.length
  | [], _, _ => Nat.zero_le _
  | _ :: _, [], h => by cases h
  | d :: t, c :: r, h => by
    have h' : ((sml c == d) && wdB t r) = true := h
    rw [Bool.and_eq_true] at h'
    have := oL      t r h'.2
    simp; omega
theorem aGT {b:Nat}(hb:b<=36) {l:List UInt8}:mnt b true l=if hdC l=95/\hdD b l.tail=true then (mnt b false l.tail).map (fun x=>(x.1,x.2.1,x.2.2+1)) else mnt b false l:=by
 by_cases h:hdC l=95/\hdD b l.tail=true
 . rw [if_pos h]
   have e1:=aAd hb (l:=l)
   have e2:=aAj hb (l:=l)
   rw [if_pos h] at e1 e2
   have ed:∀ k,l.drop (k+1)=l.tail.drop k:=fun k=>by
    cases l with
    | nil=>simp
    | cons c r=>rfl
   have hz:rch b false l.tail ≠ 0:=by
    have:=aAe (j:=false) h.2
    omega
   unfold mnt
   rw [e1,e2,ed,show rch b false l.tail+1+1=(rch b false l.tail+1)+1 from rfl,ed]
   by_cases a:hdC (l.tail.drop (rch b false l.tail))=46
   . rw [if_pos a,if_pos a,if_neg (by omega),if_neg (by omega)]
     simp;omega
   . rw [if_neg a,if_neg a,if_neg (by omega),if_neg hz];rfl
 . rw [if_neg h]
   have e1:=aAd hb (l:=l)
   have e2:=aAj hb (l:=l)
   rw [if_neg h] at e1 e2
   unfold mnt
   rw [e1,e2]
theorem iC {sg:Bool}{r:List UInt8}{p:Pt}{n:Nat}(h:bZ sg r=some (p,n)):0<n/\n<=r.length:=by
 unfold bZ at h
 split at h
 . next x e =>
   injection h with h;subst h
   unfold bJ at e
   by_cases a:wdB aU r=true
   . rw [if_pos a] at e;injection e with e;injection e with _ e
     have:=oL _ _ a
     simp [aU] at this;omega
   . rw [if_neg a] at e
     by_cases c:wdB iN r=true
     . rw [if_pos c] at e;injection e with e;injection e with _ e
       have:=oL _ _ c
       simp [iN] at this;omega
     . rw [if_neg c] at e;cases e
 . split at h
   . next x e =>
     injection h with h;subst h
     unfold bK at e
     by_cases a:sg=false/\wdB jF r=true
     . rw [if_pos a] at e;injection e with e;injection e with _ e
       have:=oL _ _ a.2
       simp [jF] at this;omega
     . rw [if_neg a] at e;cases e
   . split at h
     . next x e =>
       injection h with h;subst h
       unfold aQ at e
       by_cases a:isX r=true
       . rw [if_pos a] at e
         split at e
         . cases e
         . next W P k em =>
           split at e
           . cases e
           . next ex m ee =>
             injection e with e;injection e with _ e
             have h1:=gL ee
             have h2:=fB em
             rw [List.length_drop] at h1 h2
             omega
       . rw [if_neg a] at e;cases e
     . unfold cB at h
       split at h
       . cases h
       . next W P k em =>
         have h2:=fB em
         split at h
         . injection h with h;injection h with _ h;omega
         . next ex m ee =>
           injection h with h;injection h with _ h
           have h1:=gL ee
           rw [List.length_drop] at h1
           omega
theorem aBB {l:List UInt8}{p:Pt}{n:Nat}(h:pfx l=some (p,n)):0<n/\n<=l.length:=by
 unfold pfx at h
 split at h
 . cases h
 . next q m e =>
   injection h with h;injection h with _ h
   have:=iC e
   have:=mW l
   rw [List.length_drop] at *
   omega
end Go.Proofs.YtejgpbhionadbaaGreatDoor
