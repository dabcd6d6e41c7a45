/-
  Holds: VMath VNatM VBtM VBtN VBigM VBigP.
-/
import Derived.Test.YtblkokjkmbpejaaGreatDoorKf0
set_option maxRecDepth 100000
set_option maxHeartbeats 4000000
namespace Go.Proofs.YtblkokjkmbpejaaGreatDoor
def cX (x:Int):Prop:=0<=x/\x<18446744073709551616
def aCx (x y c:Int):Int:=(x+y+c) % 18446744073709551616
def a3C (x y c:Int):Int:=(x+y+c) / 18446744073709551616
def mHi (x y:Int):Int:=x * y / 18446744073709551616
def mLo (x y:Int):Int:=x * y % 18446744073709551616
def B:Nat:=18446744073709551616
theorem B_pos:0<B:=by decide
theorem Bp_pos (n:Nat):0<B ^ n:=Nat.pow_pos B_pos
def V (f:Nat -> Nat):Nat -> Nat
 | 0=>0
 | n+1=>V f n+f n * B ^ n
def Ws (f:Nat -> Nat):Prop:=∀ i,f i<B
theorem V_zero (f:Nat -> Nat):V f 0=0:=rfl
theorem V_succ (f:Nat -> Nat) (n:Nat):V f (n+1)=V f n+f n * B ^ n:=rfl
theorem V_congr {f g:Nat -> Nat}:∀ {n:Nat},(∀ i,i<n -> f i=g i) -> V f n=V g n
 | 0,_=>rfl
 | n+1,h=>by rw [V_succ,V_succ,V_congr (fun i hi=>h i (by omega)),h n (by omega)]
theorem V_lt {f : Nat → Nat} (hf : Ws f) : ∀ n, V f n < B ^ n
  | 0 => by rw [V_zero, Nat.pow_zero]; decide
  | n + 1 => by
    have a := V_lt hf n
    have b := hf n
    have c : (f n + 1) * B ^ n ≤ B * B ^ n := Nat.mul_le_mul_right _ b
    rw [V_succ, Nat.pow_succ]
    rw [Nat.add_mul, Nat.one_mul] at c
    rw [Nat.mul_comm (B ^ n) B]
    omega
theorem V_ge {f:Nat -> Nat}{n:Nat}(h:f n ≠ 0):B ^ n<=V f (n+1):=by
 have a:1 * B ^ n<=f n * B ^ n:=Nat.mul_le_mul_right _ (by omega)
 rw [V_succ];omega
theorem split_gen {u v x p q:Nat}:u+v * p+x * (p * q)=u+(v+x * q) * p:=by grind
theorem V_split (f : Nat → Nat) (a : Nat) : ∀ b, V f (a + b) = V f a + V (fun i => f (a + i)) b * B ^ a
  | 0 => by rw [V_zero, Nat.zero_mul]; rfl
  | b + 1 => by
    have e := V_split f a b
    rw [← Nat.add_assoc, V_succ, e, V_succ, Nat.pow_add]
    exact split_gen
theorem V_zeros {f : Nat → Nat} {m : Nat} : ∀ {n : Nat}, m ≤ n → (∀ i, m ≤ i → i < n → f i = 0) → V f n = V f m
  | 0, h, _ => by
    have e : m = 0 := by omega
    rw [e]
  | n + 1, h, z => by
    by_cases e : m = n + 1
    · rw [e]
    · rw [V_succ, z n (by omega) (by omega), Nat.zero_mul, Nat.add_zero]
      exact V_zeros (by omega) (fun i a b => z i a (by omega))
theorem V_nought (n:Nat):V (fun _=>0) n=0:=V_zeros (f:=fun _=>0) (Nat.zero_le n) (fun _ _ _=>rfl)
def Top (f:Nat -> Nat) (n:Nat):Prop:=n=0 \/ f (n - 1) ≠ 0
theorem Top_ge {f:Nat -> Nat}{n:Nat}(h:Top f n) (hn:0<n):B ^ (n - 1)<=V f n:=by
 rcases h with h | h
 . omega
 . have:=V_ge h
   rw [show n - 1+1=n by omega] at this
   exact this
theorem len_le {f:Nat -> Nat}{n k:Nat}(t:Top f n) (h:V f n<B ^ k):n<=k:=by
 by_cases c:n<=k
 . exact c
 . exfalso
   have a:=Top_ge t (by omega)
   have b:B ^ k<=B ^ (n - 1):=Nat.pow_le_pow_right B_pos (by omega)
   omega
def tl (f:Nat -> Nat):Nat -> Nat
 | 0=>0
 | n+1=>if f n=0 then tl f n else n+1
theorem tl_le (f : Nat → Nat) : ∀ n, tl f n ≤ n
  | 0 => Nat.le_refl _
  | n + 1 => by
    unfold tl
    split
    · have := tl_le f n; omega
    · exact Nat.le_refl _
theorem tl_top (f : Nat → Nat) : ∀ n, Top f (tl f n)
  | 0 => Or.inl rfl
  | n + 1 => by
    unfold tl
    split
    · exact tl_top f n
    · exact Or.inr (by simpa using ‹_›)
theorem tl_V (f : Nat → Nat) : ∀ n, V f (tl f n) = V f n
  | 0 => rfl
  | n + 1 => by
    unfold tl
    split
    · rename_i h; rw [tl_V f n, V_succ, h, Nat.zero_mul, Nat.add_zero]
    · rfl
theorem tl_zero {f:Nat -> Nat}{n:Nat}(h:f n=0):tl f (n+1)=tl f n:=by
 show (if f n=0 then tl f n else n+1)=_
 rw [if_pos h]
theorem tl_stop {f:Nat -> Nat}{n:Nat}(h:f n ≠ 0):tl f (n+1)=n+1:=by
 show (if f n=0 then tl f n else n+1)=_
 rw [if_neg h]
def ord (x y:Nat):Int:=if x<y then -1 else if y<x then 1 else 0
theorem oH {x y:Nat}(h:x<y):ord x y = -1:=by unfold ord;rw [if_pos h]
theorem wY {x y:Nat}(h:y<x):ord x y=1:=by unfold ord;rw [if_neg (by omega),if_pos h]
theorem aDb {x y:Nat}(h:x=y):ord x y=0:=by unfold ord;rw [if_neg (by omega),if_neg (by omega)]
def put (f:Nat -> Nat) (k x:Nat):Nat -> Nat:=fun i=>if i=k then x else f i
theorem put_at (f:Nat -> Nat) (k x:Nat):put f k x k=x:=by unfold put;rw [if_pos rfl]
theorem put_ne {f:Nat -> Nat}{k x i:Nat}(h:i ≠ k):put f k x i=f i:=by unfold put;rw [if_neg h]
theorem put_Ws {f:Nat -> Nat}{k x:Nat}(hf:Ws f) (hx:x<B):Ws (put f k x):=by
 intro i;unfold put;split
 . exact hx
 . exact hf i
theorem V_put_low {f:Nat -> Nat}{k x n:Nat}(h:n<=k):V (put f k x) n=V f n:=V_congr fun i hi=>put_ne (by omega)
def ev (K:Int) (m:Nat) (e:Int):Nat:=m * 2 ^ (e - K).toNat
theorem bE {K' K e:Int}(m:Nat) (h:K'<=K) (h2:K<=e):ev K' m e=ev K m e * 2 ^ (K - K').toNat:=by
 unfold ev
 rw [Nat.mul_assoc,<- Nat.pow_add]
 have:(e - K').toNat=(e - K).toNat+(K - K').toNat:=by omega
 rw [this]
def Eqv (m:Nat) (e:Int) (M:Nat) (E:Int):Prop:=∃ K,K<=e/\K<=E/\ev K m e=ev K M E
theorem Eqv.all {m M:Nat}{e E:Int}(h:Eqv m e M E) (K':Int) (h1:K'<=e) (h2:K'<=E):ev K' m e=ev K' M E:=by
 obtain ⟨K,a,b,q⟩:=h
 rcases Int.le_total K' K with c | c
 . rw [bE m c a,bE M c b,q]
 . exact Nat.eq_of_mul_eq_mul_right (Nat.two_pow_pos (K' - K).toNat) (by rw [<- bE m c h1,<- bE M c h2,q])
theorem Eqv.rfl' (m:Nat) (e:Int):Eqv m e m e:=⟨e,Int.le_refl e,Int.le_refl e,rfl⟩
theorem Eqv.symm {m M:Nat}{e E:Int}(h:Eqv m e M E):Eqv M E m e:=by
 obtain ⟨K,a,b,q⟩:=h
 exact ⟨K,b,a,q.symm⟩
theorem Eqv.trans {m M M':Nat}{e E E':Int}(h:Eqv m e M E) (h':Eqv M E M' E'):Eqv m e M' E':=by
 refine ⟨min e (min E E'),by omega,by omega,?_⟩
 rw [h.all _ (by omega) (by omega),h'.all _ (by omega) (by omega)]
theorem Eqv.dn {m M:Nat}{e E:Int}(h:Eqv m e M E) (c:e<=E):m=M * 2 ^ (E - e).toNat:=by
 have:=h.all e (Int.le_refl e) c
 unfold ev at this
 rw [Int.sub_self] at this
 simpa using this
theorem Eqv.up {m M:Nat}{e E:Int}(h:Eqv m e M E) (c:E<=e):M=m * 2 ^ (e - E).toNat:=h.symm.dn c
theorem Eqv.of_dn {m M:Nat}{e E:Int}(c:e<=E) (h:m=M * 2 ^ (E - e).toNat):Eqv m e M E:=by
 refine ⟨e,Int.le_refl e,c,?_⟩
 unfold ev
 rw [Int.sub_self,h]
 simp
theorem Eqv.half {m:Nat}(e:Int) (h:m % 2=0):Eqv m e (m / 2) (e+1):=by
 refine Eqv.of_dn (by omega) ?_
 rw [show (e+1 - e).toNat=1 by omega]
 omega
theorem Eqv.twice (m:Nat) (e:Int):Eqv m e (m * 2) (e - 1):=by
 refine (Eqv.of_dn (by omega) ?_).symm
 rw [show (e - (e - 1)).toNat=1 by omega]
theorem Eqv.pos {m M:Nat}{e E:Int}(h:Eqv m e M E) (c:m ≠ 0):M ≠ 0:=by
 obtain ⟨K,a,b,q⟩:=h
 unfold ev at q
 intro hM
 rw [hM,Nat.zero_mul] at q
 have:=Nat.mul_pos (Nat.pos_of_ne_zero c) (Nat.two_pow_pos (e - K).toNat)
 omega
def Fin2 (f:Nat) (L:Int) (M:Nat) (E:Int):Prop:=¬ (M<2 ^ f/\L<E)/\(M % 2=1 \/ (M<2 ^ (f+1)/\L<=E))
def Good (f:Nat) (L:Int) (M:Nat) (E:Int):Prop:=M<2 ^ (f+1)/\L<=E/\(2 ^ f<=M \/ E=L)
def out (f:Nat) (t:Int) (L:Int) (M:Nat) (E:Int):Option Nat :=
 if 2 ^ (f+1)<=M \/ E<L \/ (2 ^ f<=M/\t<=E - L+1) then none
 else if M<2 ^ f then some M else some ((E - L+1).toNat * 2 ^ f+(M - 2 ^ f))
theorem Good.fin {f:Nat}{L:Int}{M:Nat}{E:Int}(h:Good f L M E):Fin2 f L M E:=by
 obtain ⟨a,b,c⟩:=h
 refine ⟨?_,.inr ⟨a,b⟩⟩
 rintro ⟨x,y⟩
 rcases c with c | c <;> omega
theorem Fin2.cases {f:Nat}{L:Int}{M:Nat}{E:Int}(h:Fin2 f L M E):Good f L M E \/ (M % 2=1/\(2 ^ (f+1)<=M \/ E<L)):=by
 obtain ⟨a,b⟩:=h
 by_cases g:M<2 ^ (f+1)/\L<=E
 . refine .inl ⟨g.1,g.2,?_⟩
   by_cases k:2 ^ f<=M
   . exact .inl k
   . right
     have:¬ L<E:=fun y=>a ⟨by omega,y⟩
     omega
 . right
   refine ⟨?_,?_⟩
   . rcases b with b | b
     . exact b
     . exact absurd b g
   . by_cases k:M<2 ^ (f+1)
     . right
       have:¬ L<=E:=fun y=>g ⟨k,y⟩
       omega
     . left
       omega
theorem uG {k:Nat}(h:0<k):2<=2 ^ k:=by
 calc 2=2 ^ 1:=rfl
  _<=2 ^ k:=Nat.pow_le_pow_right (by decide) h
theorem Good.uniq_dn {f:Nat}{L:Int}{M M':Nat}{E E':Int}(h:Good f L M E) (h':Good f L M' E') (q:Eqv M E M' E') (c:E<=E'):M=M'/\E=E':=by
 have d:=q.dn c
 rcases Int.lt_or_eq_of_le c with c' | c'
 . exfalso
   obtain ⟨a1,a2,a3⟩:=h
   obtain ⟨b1,b2,b3⟩:=h'
   have hm:2 ^ f<=M':=by
    rcases b3 with b3 | b3
    . exact b3
    . omega
   have:=uG (k:=(E' - E).toNat) (by omega)
   have h2:M' * 2<=M:=by
    rw [d]
    exact Nat.mul_le_mul_left M' this
   rw [Nat.pow_succ] at a1
   omega
 . subst c'
   rw [Int.sub_self] at d
   exact ⟨by simpa using d,rfl⟩
theorem Good.uniq {f:Nat}{L:Int}{M M':Nat}{E E':Int}(h:Good f L M E) (h':Good f L M' E') (q:Eqv M E M' E'):M=M'/\E=E':=by
 rcases Int.le_total E E' with c | c
 . exact h.uniq_dn h' q c
 . obtain ⟨a,b⟩:=h'.uniq_dn h q.symm c
   exact ⟨a.symm,b.symm⟩
theorem Good.not_bad {f:Nat}{L:Int}{M M':Nat}{E E':Int}(h:Good f L M E) (q:Eqv M E M' E') (o:M' % 2=1):¬ (2 ^ (f+1)<=M' \/ E'<L):=by
 obtain ⟨a1,a2,a3⟩:=h
 have key:E<=E':=by
  rcases Int.le_total E E' with c | c
  . exact c
  . have d:=q.up c
    by_cases z:(E - E').toNat=0
    . omega
    . exfalso
      obtain ⟨k,hk⟩:∃ k,(E - E').toNat=k+1:=⟨(E - E').toNat - 1,by omega⟩
      rw [hk,Nat.pow_succ,<- Nat.mul_assoc] at d
      omega
 have d:=q.dn key
 have:M'<=M:=by
  rw [d]
  exact Nat.le_mul_of_pos_right M' (Nat.two_pow_pos _)
 omega
theorem cP {f:Nat}{t L:Int}{M:Nat}{E:Int}(h:2 ^ (f+1)<=M \/ E<L):out f t L M E=none:=by
 unfold out
 rw [if_pos]
 rcases h with h | h
 . exact .inl h
 . exact .inr (.inl h)
theorem aAn {f:Nat}{t L:Int}{M M':Nat}{E E':Int}(h:Fin2 f L M E) (h':Fin2 f L M' E') (q:Eqv M E M' E'):out f t L M E=out f t L M' E':=by
 rcases h.cases with g | ⟨o,b⟩
 . rcases h'.cases with g' | ⟨o',b'⟩
   . obtain ⟨a,b⟩:=g.uniq g' q
     rw [a,b]
   . exact absurd b' (g.not_bad q o')
 . rcases h'.cases with g' | ⟨o',b'⟩
   . exact absurd b (g'.not_bad q.symm o)
   . rw [cP b,cP b']
def PK (f:Nat) (t L:Int) (m:Nat) (e:Int) (r:Option Nat):Prop:=∃ M E,Eqv m e M E/\Fin2 f L M E/\r=out f t L M E
theorem PK.uniq {f:Nat}{t L:Int}{m m':Nat}{e e':Int}{r r':Option Nat}(h:PK f t L m e r) (h':PK f t L m' e' r') (q:Eqv m e m' e'):r=r':=by
 obtain ⟨M,E,a,b,rfl⟩:=h
 obtain ⟨M',E',a',b',rfl⟩:=h'
 exact aAn b b' (a.symm.trans (q.trans a'))
def Mid (f:Nat) (L:Int) (M:Nat) (E:Int):Prop:=M % 2=1 \/ (M<2 ^ (f+1)/\L<=E)
theorem Mid.step {f:Nat}{L:Int}{M:Nat}{E:Int}(g:M<2 ^ f/\L<E):Mid f L (M * 2) (E - 1):=by
 refine .inr ⟨?_,by omega⟩
 rw [Nat.pow_succ]
 omega
def nm1:Nat -> Nat -> Int -> Nat × Int
 | 0,m,e=>(m,e)
 | k+1,m,e=>if m % 2=1 then (m,e) else nm1 k (m / 2) (e+1)
theorem aC8    : ∀ (k m : Nat) (e : Int), m ≠ 0 → m ≤ k → Eqv m e (nm1 k m e).1 (nm1 k m e).2 ∧ (nm1 k m e).1 % 2 = 1 := by
  intro k
  induction k with
  | zero =>
    intro m e h c
    omega
  | succ k ih =>
    intro m e h c
    by_cases o : m % 2 = 1
    · have q : nm1 (k + 1) m e = (m, e) := if_pos o
      rw [q]
      exact ⟨Eqv.rfl' m e, o⟩
    · have q : nm1 (k + 1) m e = nm1 k (m / 2) (e + 1) := if_neg o
      rw [q]
      obtain ⟨a, b⟩ := ih (m / 2) (e + 1) (by omega) (by omega)
      exact ⟨(Eqv.half e (by omega)).trans a, b⟩
def nm2 (f:Nat) (L:Int):Nat -> Nat -> Int -> Nat × Int
 | 0,m,e=>(m,e)
 | k+1,m,e=>if m<2 ^ f/\L<e then nm2 f L k (m * 2) (e - 1) else (m,e)
theorem aC9    (f : Nat) (L : Int) : ∀ (k m : Nat) (e : Int), (e - L).toNat = k → m ≠ 0 → Mid f L m e → Eqv m e (nm2 f L k m e).1 (nm2 f L k m e).2 ∧ Fin2 f L (nm2 f L k m e).1 (nm2 f L k m e).2 := by
  intro k
  induction k with
  | zero =>
    intro m e hk h c
    have q : nm2 f L 0 m e = (m, e) := rfl
    rw [q]
    refine ⟨Eqv.rfl' m e, ?_, c⟩
    intro y
    have := y.2
    simp only at this
    omega
  | succ k ih =>
    intro m e hk h c
    by_cases g : m < 2 ^ f ∧ L < e
    · have q : nm2 f L (k + 1) m e = nm2 f L k (m * 2) (e - 1) := if_pos g
      rw [q]
      obtain ⟨a, b⟩ := ih (m * 2) (e - 1) (by omega) (by omega) (Mid.step g)
      exact ⟨(Eqv.twice m e).trans a, b⟩
    · have q : nm2 f L (k + 1) m e = (m, e) := if_neg g
      rw [q]
      exact ⟨Eqv.rfl' m e, g, c⟩
def pk (f:Nat) (t L:Int) (m:Nat) (e:Int):Option Nat :=
 out f t L (nm2 f L ((nm1 m m e).2 - L).toNat (nm1 m m e).1 (nm1 m m e).2).1 (nm2 f L ((nm1 m m e).2 - L).toNat (nm1 m m e).1 (nm1 m m e).2).2
theorem PK.ex (f:Nat) (t L:Int) {m:Nat}(e:Int) (h:m ≠ 0):PK f t L m e (pk f t L m e):=by
 obtain ⟨a,b⟩:=aC8 m m e h (Nat.le_refl m)
 obtain ⟨a',c'⟩:=aC9 f L _ (nm1 m m e).1 (nm1 m m e).2 rfl (a.pos h) (.inl b)
 exact ⟨_,_,a.trans a',c',rfl⟩
theorem PK.eq {f:Nat}{t L:Int}{m:Nat}{e:Int}{r:Option Nat}(m0:m ≠ 0) (h:PK f t L m e r):pk f t L m e=r :=
 PK.uniq (PK.ex f t L e m0) h (Eqv.rfl' m e)
theorem lS {f:Nat}{t L:Int}{m M:Nat}{e E:Int}(h:m ≠ 0) (q:Eqv m e M E):pk f t L m e=pk f t L M E:=by
 exact PK.uniq (PK.ex f t L e h) (PK.ex f t L E (q.pos h)) q
theorem kU {f:Nat}{t L:Int}{M:Nat}{E:Int}(m0:M ≠ 0) (h:Fin2 f L M E):pk f t L M E=out f t L M E :=
 PK.eq m0 ⟨M,E,Eqv.rfl' M E,h,rfl⟩
def mt (f:Nat) (b:Nat):Nat:=if b / 2 ^ f=0 then b else b % 2 ^ f+2 ^ f
def xp (f:Nat) (L:Int) (b:Nat):Int:=if b / 2 ^ f=0 then L else L+((b / 2 ^ f:Nat):Int) - 1
theorem cQ (f:Nat) (L:Int) (b:Nat):Good f L (mt f b) (xp f L b):=by
 unfold mt xp
 have p:=Nat.two_pow_pos f
 by_cases h:b / 2 ^ f=0
 . rw [if_pos h,if_pos h]
   have:b<2 ^ f:=by
    rcases Nat.div_eq_zero_iff.1 h with h | h <;> omega
   refine ⟨?_,Int.le_refl L,.inr rfl⟩
   rw [Nat.pow_succ]
   omega
 . rw [if_neg h,if_neg h]
   have:=Nat.mod_lt b p
   refine ⟨?_,?_,.inl (by omega)⟩
   . rw [Nat.pow_succ]
     omega
   . generalize b / 2 ^ f=q at h ⊢
     omega
def ln (m:Nat):Nat:=if m=0 then 0 else m.log2+1
theorem aBd (m:Nat):m<2 ^ ln m:=by
 unfold ln
 split
 . rename_i h
   rw [h]
   decide
 . exact Nat.lt_log2_self
theorem aBc {m:Nat}(h:m ≠ 0):2 ^ (ln m - 1)<=m:=by
 unfold ln
 rw [if_neg h]
 exact Nat.log2_self_le h
theorem wL {m:Nat}(h:m ≠ 0):0<ln m:=by
 unfold ln
 rw [if_neg h]
 omega
namespace Big
def B:Nat:=4294967296
theorem B_pos:0<B:=by decide
theorem Bp_pos (n:Nat):0<B ^ n:=Nat.pow_pos B_pos
def V (f:Nat -> Nat):Nat -> Nat
 | 0=>0
 | n+1=>V f n+f n * B ^ n
def Ws (f:Nat -> Nat):Prop:=∀ i,f i<B
theorem V_zero (f:Nat -> Nat):V f 0=0:=rfl
theorem V_succ (f:Nat -> Nat) (n:Nat):V f (n+1)=V f n+f n * B ^ n:=rfl
theorem V_congr {f g:Nat -> Nat}:∀ {n:Nat},(∀ i,i<n -> f i=g i) -> V f n=V g n
 | 0,_=>rfl
 | n+1,h=>by rw [V_succ,V_succ,V_congr (fun i hi=>h i (by omega)),h n (by omega)]
theorem V_lt {f : Nat → Nat} (hf : Ws f) : ∀ n, V f n < B ^ n
  | 0 => by rw [V_zero, Nat.pow_zero]; decide
  | n + 1 => by
    have a := V_lt hf n
    have b := hf n
    have c : (f n + 1) * B ^ n ≤ B * B ^ n := Nat.mul_le_mul_right _ b
    rw [V_succ, Nat.pow_succ]
    rw [Nat.add_mul, Nat.one_mul] at c
    rw [Nat.mul_comm (B ^ n) B]
    omega
theorem V_ge {f:Nat -> Nat}{n:Nat}(h:f n ≠ 0):B ^ n<=V f (n+1):=by
 have a:1 * B ^ n<=f n * B ^ n:=Nat.mul_le_mul_right _ (by omega)
 rw [V_succ];omega
theorem split_gen {u v x p q:Nat}:u+v * p+x * (p * q)=u+(v+x * q) * p:=by grind
theorem V_split (f : Nat → Nat) (a : Nat) : ∀ b, V f (a + b) = V f a + V (fun i => f (a + i)) b * B ^ a
  | 0 => by rw [V_zero, Nat.zero_mul]; rfl
  | b + 1 => by
    have e := V_split f a b
    rw [← Nat.add_assoc, V_succ, e, V_succ, Nat.pow_add]
    exact split_gen
theorem V_zeros {f : Nat → Nat} {m : Nat} : ∀ {n : Nat}, m ≤ n → (∀ i, m ≤ i → i < n → f i = 0) → V f n = V f m
  | 0, h, _ => by
    have e : m = 0 := by omega
    rw [e]
  | n + 1, h, z => by
    by_cases e : m = n + 1
    · rw [e]
    · rw [V_succ, z n (by omega) (by omega), Nat.zero_mul, Nat.add_zero]
      exact V_zeros (by omega) (fun i a b => z i a (by omega))
theorem V_nought (n:Nat):V (fun _=>0) n=0:=V_zeros (f:=fun _=>0) (Nat.zero_le n) (fun _ _ _=>rfl)
def Top (f:Nat -> Nat) (n:Nat):Prop:=n=0 \/ f (n - 1) ≠ 0
theorem Top_ge {f:Nat -> Nat}{n:Nat}(h:Top f n) (hn:0<n):B ^ (n - 1)<=V f n:=by
 rcases h with h | h
 . omega
 . have:=V_ge h
   rw [show n - 1+1=n by omega] at this
   exact this
theorem len_lt {f g:Nat -> Nat}{m n:Nat}(hf:Ws f) (hg:Top g n) (h:m<n):V f m<V g n:=by
 have a:=V_lt hf m
 have b:=Top_ge hg (by omega)
 have c:B ^ m<=B ^ (n - 1):=Nat.pow_le_pow_right B_pos (by omega)
 omega
theorem len_le {f:Nat -> Nat}{n k:Nat}(t:Top f n) (h:V f n<B ^ k):n<=k:=by
 by_cases c:n<=k
 . exact c
 . exfalso
   have a:=Top_ge t (by omega)
   have b:B ^ k<=B ^ (n - 1):=Nat.pow_le_pow_right B_pos (by omega)
   omega
def tl (f:Nat -> Nat):Nat -> Nat
 | 0=>0
 | n+1=>if f n=0 then tl f n else n+1
theorem tl_le (f : Nat → Nat) : ∀ n, tl f n ≤ n
  | 0 => Nat.le_refl _
  | n + 1 => by
    unfold tl
    split
    · have := tl_le f n; omega
    · exact Nat.le_refl _
theorem tl_top (f : Nat → Nat) : ∀ n, Top f (tl f n)
  | 0 => Or.inl rfl
  | n + 1 => by
    unfold tl
    split
    · exact tl_top f n
    · exact Or.inr (by simpa using ‹_›)
theorem tl_V (f : Nat → Nat) : ∀ n, V f (tl f n) = V f n
  | 0 => rfl
  | n + 1 => by
    unfold tl
    split
    · rename_i h; rw [tl_V f n, V_succ, h, Nat.zero_mul, Nat.add_zero]
    · rfl
theorem tl_zero {f:Nat -> Nat}{n:Nat}(h:f n=0):tl f (n+1)=tl f n:=by
 show (if f n=0 then tl f n else n+1)=_
 rw [if_pos h]
theorem tl_stop {f:Nat -> Nat}{n:Nat}(h:f n ≠ 0):tl f (n+1)=n+1:=by
 show (if f n=0 then tl f n else n+1)=_
 rw [if_neg h]
theorem V_lt_at {f g : Nat → Nat} (hf : Ws f) {k : Nat} (hk : f k < g k) : ∀ {n : Nat}, k < n → (∀ j, k < j → j < n → f j = g j) → V f n < V g n
  | 0, h, _ => absurd h (by omega)
  | n + 1, h, e => by
    by_cases c : k = n
    · subst c
      have a := V_lt hf k
      have b : (f k + 1) * B ^ k ≤ g k * B ^ k := Nat.mul_le_mul_right _ hk
      rw [V_succ, V_succ]
      rw [Nat.add_mul, Nat.one_mul] at b
      omega
    · have i := V_lt_at hf hk (n := n) (by omega) (fun j a b => e j a (by omega))
      rw [V_succ, V_succ, e n (by omega) (by omega)]
      omega
def put (f:Nat -> Nat) (k x:Nat):Nat -> Nat:=fun i=>if i=k then x else f i
theorem put_at (f:Nat -> Nat) (k x:Nat):put f k x k=x:=by unfold put;rw [if_pos rfl]
theorem put_ne {f:Nat -> Nat}{k x i:Nat}(h:i ≠ k):put f k x i=f i:=by unfold put;rw [if_neg h]
theorem put_Ws {f:Nat -> Nat}{k x:Nat}(hf:Ws f) (hx:x<B):Ws (put f k x):=by
 intro i;unfold put;split
 . exact hx
 . exact hf i
theorem V_put_low {f:Nat -> Nat}{k x n:Nat}(h:n<=k):V (put f k x) n=V f n:=V_congr fun i hi=>put_ne (by omega)
theorem sum_gen {β v a b p x y c q r:Nat}(h:v+c * p=a+b) (e:β * q+r=x+y+c):v+r * p+q * (p * β)=a+x * p+(b+y * p):=by
 have:r * p+q * (p * β)=(β * q+r) * p:=by grind
 rw [e] at this
 grind
theorem sum_step {v a b p x y c:Nat}(h:v+c * p=a+b):v+(x+y+c) % B * p+(x+y+c) / B * (p * B)=a+x * p+(b+y * p) :=
 sum_gen h (Nat.div_add_mod (x+y+c) B)
theorem sub_step {β v a b p x y c l d:Nat}(h:v+b=a+c * p) (hl:l+y+c=x+d * β):v+l * p+(b+y * p)=a+x * p+d * (p * β):=by
 have:l * p+y * p+c * p=x * p+d * (p * β):=by
  have e:(l+y+c) * p=(x+d * β) * p:=by rw [hl]
  grind
 omega
end Big
theorem BB:B=Big.B * Big.B:=by decide
theorem uK (k:Nat):B ^ k=Big.B ^ (2 * k):=by rw [BB,Nat.pow_mul,Nat.pow_two]
def bV (f:Nat -> Nat) (i:Nat):Nat:=if i % 2=0 then f (i / 2) % Big.B else f (i / 2) / Big.B
theorem pO (f:Nat -> Nat) (k:Nat):bV f (2 * k)=f k % Big.B:=by
 unfold bV;rw [if_pos (by omega),show 2 * k / 2=k by omega]
theorem tD (f:Nat -> Nat) (k:Nat):bV f (2 * k+1)=f k / Big.B:=by
 unfold bV;rw [if_neg (by omega),show (2 * k+1) / 2=k by omega]
theorem lQ {x:Nat}(h:x<B):x / Big.B<Big.B:=Nat.div_lt_of_lt_mul (by rw [<- BB];exact h)
theorem wC {f:Nat -> Nat}(h:Ws f):Big.Ws (bV f):=by
 intro i;unfold bV;split
 . exact Nat.mod_lt _ Big.B_pos
 . exact lQ (h _)
theorem zT {v x d p q:Nat}(q1:d * (x / d)+x % d=x) (hp:q=p):v+x % d * q+x / d * (q * d)=v+x * p:=by
 rw [hp]
 have e:x % d * p+x / d * (p * d)=(d * (x / d)+x % d) * p:=by grind
 rw [q1] at e
 omega
theorem nX       (f : Nat → Nat) : ∀ k, Big.V (bV     f) (2 * k) = V f k
  | 0 => rfl
  | k + 1 => by
    rw [show 2 * (k + 1) = 2 * k + 1 + 1 by omega, Big.V_succ, Big.V_succ, nX       f k, pO         , tD        , V_succ, Nat.pow_succ]
    exact zT       (Nat.div_add_mod _ _) (uK     k).symm
def cut (g:Nat -> Nat) (n i:Nat):Nat:=if i<n then g i else 0
theorem aBY {x y:Nat}(hx:x<Big.B) (hy:y<Big.B):x+y * Big.B<B:=by
 have h:=Nat.mul_le_mul_right Big.B (Nat.succ_le_of_lt hy)
 rw [<- BB,Nat.succ_mul] at h
 omega
end Go.Proofs.YtblkokjkmbpejaaGreatDoor
