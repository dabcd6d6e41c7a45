/-
  Holds: VRdM VBtS VBtK VRdF VRdA.
-/
import Derived.Laws.BitsAllLaws
import Derived.Test.YtblkokjkmbpejaaGreatDoorKf3
set_option maxRecDepth 100000
set_option maxHeartbeats 4000000
namespace Go.Proofs.YtblkokjkmbpejaaGreatDoor
def vL (n d:Nat) (e:Int) (m:Nat) (x:Int):Prop:=∃ K,K<=e/\K<=x/\ev K n e<d * ev K m x
def vE (n d:Nat) (e:Int) (m:Nat) (x:Int):Prop:=∃ K,K<=e/\K<=x/\ev K n e=d * ev K m x
theorem gE (a b c:Nat):a * (b * c)=a * b * c:=(Nat.mul_assoc a b c).symm
theorem vL.at {n d m:Nat}{e x:Int}(h:vL n d e m x) (K:Int) (h1:K<=e) (h2:K<=x):ev K n e<d * ev K m x:=by
 obtain ⟨K0,a,b,q⟩:=h
 rcases Int.le_total K K0 with c | c
 . rw [bE n c a,bE m c b,gE]
   exact Nat.mul_lt_mul_of_pos_right q (Nat.two_pow_pos _)
 . rw [bE n c h1,bE m c h2,gE] at q
   exact Nat.lt_of_mul_lt_mul_right q
theorem vE.at {n d m:Nat}{e x:Int}(h:vE n d e m x) (K:Int) (h1:K<=e) (h2:K<=x):ev K n e=d * ev K m x:=by
 obtain ⟨K0,a,b,q⟩:=h
 rcases Int.le_total K K0 with c | c
 . rw [bE n c a,bE m c b,gE,q]
 . rw [bE n c h1,bE m c h2,gE] at q
   exact Nat.eq_of_mul_eq_mul_right (Nat.two_pow_pos _) q
def lE (m:Nat) (x:Int) (m':Nat) (x':Int):Prop:=∃ K,K<=x/\K<=x'/\ev K m x<=ev K m' x'
def lT (m:Nat) (x:Int) (m':Nat) (x':Int):Prop:=∃ K,K<=x/\K<=x'/\ev K m x<ev K m' x'
theorem lE.at {m m':Nat}{x x':Int}(h:lE m x m' x') (K:Int) (h1:K<=x) (h2:K<=x'):ev K m x<=ev K m' x':=by
 obtain ⟨K0,a,b,q⟩:=h
 rcases Int.le_total K K0 with c | c
 . rw [bE m c a,bE m' c b]
   exact Nat.mul_le_mul_right _ q
 . rw [bE m c h1,bE m' c h2] at q
   exact Nat.le_of_mul_le_mul_right q (Nat.two_pow_pos _)
theorem lT.at {m m':Nat}{x x':Int}(h:lT m x m' x') (K:Int) (h1:K<=x) (h2:K<=x'):ev K m x<ev K m' x':=by
 obtain ⟨K0,a,b,q⟩:=h
 rcases Int.le_total K K0 with c | c
 . rw [bE m c a,bE m' c b]
   exact Nat.mul_lt_mul_of_pos_right q (Nat.two_pow_pos _)
 . rw [bE m c h1,bE m' c h2] at q
   exact Nat.lt_of_mul_lt_mul_right q
theorem lT.le {m m':Nat}{x x':Int}(h:lT m x m' x'):lE m x m' x':=by
 obtain ⟨K,a,b,q⟩:=h
 exact ⟨K,a,b,Nat.le_of_lt q⟩
theorem lT.trans {m m' m'':Nat}{x x' x'':Int}(h:lT m x m' x') (k:lE m' x' m'' x''):lT m x m'' x'':=by
 refine ⟨min x (min x' x''),by omega,by omega,?_⟩
 exact Nat.lt_of_lt_of_le (h.at _ (by omega) (by omega)) (k.at _ (by omega) (by omega))
theorem vL.up {n d m m':Nat}{e x x':Int}(h:vL n d e m x) (k:lE m x m' x'):vL n d e m' x':=by
 refine ⟨min e (min x x'),by omega,by omega,?_⟩
 exact Nat.lt_of_lt_of_le (h.at _ (by omega) (by omega)) (Nat.mul_le_mul_left d (k.at _ (by omega) (by omega)))
theorem vE.up {n d m m':Nat}{e x x':Int}(h:vE n d e m x) (d0:0<d) (k:lT m x m' x'):vL n d e m' x':=by
 refine ⟨min e (min x x'),by omega,by omega,?_⟩
 rw [h.at _ (by omega) (by omega)]
 exact Nat.mul_lt_mul_of_pos_left (k.at _ (by omega) (by omega)) d0
theorem iT (f:Nat) (L:Int) (b:Nat):Eqv (mt f b+1) (xp f L b) (mt f (b+1)) (xp f L (b+1)):=by
 have g:=cQ f L b
 have g':=cQ f L (b+1)
 have p:=Nat.two_pow_pos f
 have d1:=Nat.div_add_mod b (2 ^ f)
 have d2:=Nat.div_add_mod (b+1) (2 ^ f)
 have m1:=Nat.mod_lt b p
 have m2:=Nat.mod_lt (b+1) p
 by_cases c:b % 2 ^ f+1<2 ^ f
 . have e1:(b+1) / 2 ^ f=b / 2 ^ f:=by
    rw [<- d1,Nat.add_assoc,Nat.mul_add_div p,Nat.div_eq_of_lt c,Nat.mul_add_div p,Nat.div_eq_of_lt m1]
   have e2:(b+1) % 2 ^ f=b % 2 ^ f+1:=by
    rw [<- d1,Nat.add_assoc,Nat.mul_add_mod,Nat.mod_eq_of_lt c,Nat.mul_add_mod,Nat.mod_mod]
   have e3:mt f (b+1)=mt f b+1:=by
    unfold mt
    rw [e1,e2]
    split
    . rfl
    . omega
   have e4:xp f L (b+1)=xp f L b:=by
    unfold xp
    rw [e1]
   rw [e3,e4]
   exact Eqv.rfl' _ _
 . have c':b % 2 ^ f+1=2 ^ f:=Nat.le_antisymm m1 (Nat.not_lt.1 c)
   have e1:(b+1) / 2 ^ f=b / 2 ^ f+1:=by
    rw [<- d1,Nat.add_assoc,c',<- Nat.mul_succ,Nat.mul_div_cancel_left _ p,Nat.mul_add_div p,Nat.div_eq_of_lt m1]
   have e2:(b+1) % 2 ^ f=0:=by
    rw [<- d1,Nat.add_assoc,c',<- Nat.mul_succ,Nat.mul_mod_right]
   have e3:mt f (b+1)=2 ^ f:=by
    unfold mt
    rw [e1,e2,if_neg (Nat.succ_ne_zero _),Nat.zero_add]
   by_cases z:b / 2 ^ f=0
   . have e4:mt f b+1=2 ^ f:=by
      unfold mt
      rw [if_pos z]
      rw [z,Nat.mul_zero,Nat.zero_add] at d1
      omega
     have e5:xp f L b=xp f L (b+1):=by
      unfold xp
      rw [e1,if_pos z,if_neg (Nat.succ_ne_zero _),z]
      omega
     rw [e3,e4,e5]
     exact Eqv.rfl' _ _
   . have e4:mt f b+1=2 ^ f * 2:=by
      unfold mt
      rw [if_neg z,Nat.add_right_comm,c',Nat.mul_two]
     have e5:xp f L (b+1)=xp f L b+1:=by
      unfold xp
      rw [e1,if_neg z,if_neg (Nat.succ_ne_zero _)]
      generalize b / 2 ^ f=q
      omega
     rw [e3,e4,e5]
     have:=Eqv.half (m:=2 ^ f * 2) (xp f L b) (Nat.mul_mod_left _ _)
     rw [Nat.mul_div_cancel _ (by decide)] at this
     exact this
theorem Eqv.lE {m m':Nat}{x x':Int}(h:Eqv m x m' x'):lE m x m' x':=by
 obtain ⟨K,a,b,q⟩:=h
 exact ⟨K,a,b,Nat.le_of_eq q⟩
def hM (f b:Nat):Nat:=2 * mt f b+1
def hX (f:Nat) (L:Int) (b:Nat):Int:=xp f L b - 1
theorem lP (m:Nat) (x:Int):ev (x - 1) m x=m * 2:=by
 unfold ev
 rw [show (x - (x - 1)).toNat=1 by omega]
theorem bT (m:Nat) (x:Int):ev x m x=m:=by
 unfold ev
 rw [Int.sub_self]
 simp
theorem jX (f:Nat) (L:Int) (b:Nat):lT (mt f b) (xp f L b) (hM f b) (hX f L b):=by
 refine ⟨xp f L b - 1,by omega,Int.le_refl _,?_⟩
 unfold hM hX
 rw [lP,bT]
 omega
theorem jQ (f:Nat) (L:Int) (b:Nat):lT (hM f b) (hX f L b) (mt f (b+1)) (xp f L (b+1)):=by
 refine lT.trans (m':=mt f b+1) (x':=xp f L b) ⟨xp f L b - 1,Int.le_refl _,by omega,?_⟩ (iT f L b).lE
 unfold hM hX
 rw [lP,bT]
 omega
theorem mG (f:Nat) (L:Int) (b:Nat):lT (hM f b) (hX f L b) (hM f (b+1)) (hX f L (b+1)):=(jQ f L b).trans (jX f L (b+1)).le
def Up (f:Nat) (L:Int) (n d:Nat) (e:Int) (more:Bool) (b:Nat):Prop :=
 vL n d e (hM f b) (hX f L b) \/ (vE n d e (hM f b) (hX f L b)/\b % 2=0/\more=false)
def RD (f:Nat) (L:Int) (n d:Nat) (e:Int) (more:Bool) (b:Nat):Prop:=Up f L n d e more b/\(b=0 \/ ¬ Up f L n d e more (b - 1))
theorem Up.succ {f:Nat}{L:Int}{n d:Nat}{e:Int}{more:Bool}{b:Nat}(d0:0<d) (h:Up f L n d e more b):Up f L n d e more (b+1):=by
 rcases h with h | ⟨h,_,_⟩
 . exact .inl (h.up (mG f L b).le)
 . exact .inl (h.up d0 (mG f L b))
theorem Up.mono {f:Nat}{L:Int}{n d:Nat}{e:Int}{more:Bool}{b b':Nat}(d0:0<d) (h:Up f L n d e more b) (k:b<=b'):Up f L n d e more b':=by
 obtain ⟨j,rfl⟩:∃ j,b'=b+j:=⟨b' - b,by omega⟩
 clear k
 induction j with
 | zero=>exact h
 | succ j ih=>exact ih.succ d0
theorem RD.le {f:Nat}{L:Int}{n d:Nat}{e:Int}{more:Bool}{b b':Nat}(d0:0<d) (h:RD f L n d e more b) (k:Up f L n d e more b'):b<=b':=by
 rcases h.2 with z | z
 . omega
 . rcases Nat.lt_or_ge b' b with c | c
   . exact absurd (k.mono d0 (by omega)) z
   . exact c
theorem RD.uniq {f:Nat}{L:Int}{n d:Nat}{e:Int}{more:Bool}{b b':Nat}(d0:0<d) (h:RD f L n d e more b) (k:RD f L n d e more b'):b=b' :=
 Nat.le_antisymm (h.le d0 k.1) (k.le d0 h.1)
theorem lF {n d n' d' m:Nat}{e e' x:Int}(d0:0<d) (d0':0<d') (h:Eqv (n * d') e (n' * d) e'):vL n d e m x ↔ vL n' d' e' m x:=by
 have key:=h.all (min x (min e e')) (by omega) (by omega)
 have a1:ev (min x (min e e')) (n * d') e=ev (min x (min e e')) n e * d':=by unfold ev;rw [Nat.mul_right_comm]
 have a2:ev (min x (min e e')) (n' * d) e'=ev (min x (min e e')) n' e' * d:=by unfold ev;rw [Nat.mul_right_comm]
 rw [a1,a2] at key
 generalize hK:min x (min e e')=K at key
 constructor
 . intro k
   refine ⟨K,by omega,by omega,?_⟩
   have q:=k.at K (by omega) (by omega)
   have q2:=Nat.mul_lt_mul_of_pos_right q d0'
   rw [key,Nat.mul_comm d,Nat.mul_right_comm] at q2
   have q3:=Nat.lt_of_mul_lt_mul_right q2
   rw [Nat.mul_comm] at q3
   exact q3
 . intro k
   refine ⟨K,by omega,by omega,?_⟩
   have q:=k.at K (by omega) (by omega)
   have q2:=Nat.mul_lt_mul_of_pos_right q d0
   rw [<- key,Nat.mul_comm d',Nat.mul_right_comm] at q2
   have q3:=Nat.lt_of_mul_lt_mul_right q2
   rw [Nat.mul_comm] at q3
   exact q3
theorem aDS {n d n' d' m:Nat}{e e' x:Int}(d0:0<d) (d0':0<d') (h:Eqv (n * d') e (n' * d) e'):vE n d e m x ↔ vE n' d' e' m x:=by
 have key:=h.all (min x (min e e')) (by omega) (by omega)
 have a1:ev (min x (min e e')) (n * d') e=ev (min x (min e e')) n e * d':=by unfold ev;rw [Nat.mul_right_comm]
 have a2:ev (min x (min e e')) (n' * d) e'=ev (min x (min e e')) n' e' * d:=by unfold ev;rw [Nat.mul_right_comm]
 rw [a1,a2] at key
 generalize hK:min x (min e e')=K at key
 constructor
 . intro k
   refine ⟨K,by omega,by omega,?_⟩
   rw [k.at K (by omega) (by omega),Nat.mul_comm d,Nat.mul_right_comm] at key
   have:=Nat.eq_of_mul_eq_mul_right d0 key
   rw [<- this,Nat.mul_comm]
 . intro k
   refine ⟨K,by omega,by omega,?_⟩
   rw [k.at K (by omega) (by omega),Nat.mul_comm d',Nat.mul_right_comm] at key
   have:=Nat.eq_of_mul_eq_mul_right d0' key
   rw [this,Nat.mul_comm]
end Go.Proofs.YtblkokjkmbpejaaGreatDoor
namespace Go.Proofs.YtblkokjkmbpejaaGreatDoor
open Go
def Sn (s:Int):Prop:=s ≠ 32/\s ≠ 64
def mg (g b:Nat):Nat:=b % g
def ng (g b:Nat):Bool:=decide (g<=b)
def sgd (g:Nat) (c:Bool) (m:Nat):Nat:=if c then m+g else m
def cl (n m:Nat):Int:=if m=0 then 1 else if m<n then 2 else if m=n then 3 else 4
def uN (g n b:Nat):Bool:=if cl n (mg g b)=4 then false else ng g b
def uM (n f m:Nat):Nat:=if cl n m=2 then mt f m else 0
def uE (n f:Nat) (L:Int) (m:Nat):Int:=if cl n m=2 then xp f L m else 0
theorem lJ (n:Nat):cl n 0=1:=if_pos rfl
theorem iP {n m:Nat}(h0:m ≠ 0) (h:m<n):cl n m=2:=by unfold cl;rw [if_neg h0,if_pos h]
theorem aCG {n:Nat}(h0:n ≠ 0):cl n n=3:=by unfold cl;rw [if_neg h0,if_neg (Nat.lt_irrefl n),if_pos rfl]
theorem aCH {n m:Nat}(h:n<m):cl n m=4:=by unfold cl;rw [if_neg (by omega),if_neg (by omega),if_neg (by omega)]
theorem cA (n m:Nat):(m=0/\cl n m=1) \/ (m ≠ 0/\m<n/\cl n m=2) \/ (m ≠ 0/\m=n/\cl n m=3) \/ (n<m/\cl n m=4):=by
 by_cases h0:m=0
 . left;exact ⟨h0,by rw [h0,lJ]⟩
 . by_cases h1:m<n
   . right;left;exact ⟨h0,h1,iP h0 h1⟩
   . by_cases h2:m=n
     . right;right;left;exact ⟨h0,h2,by rw [h2];exact aCG (by omega)⟩
     . right;right;right;exact ⟨by omega,aCH (by omega)⟩
theorem lZ (b:Nat) (h:b<4294967296):bits BinOp.andNot IntKind.u64 (b:Int) 2147483648=((mg 2147483648 b:Nat):Int):=by
 have e:=u64_andNot_nat b 2147483648 (by omega) (by omega)
 rw [show ((2147483648:Nat):Int)=2147483648 from rfl] at e
 rw [e]
 congr 1
 have a:(b &&& (18446744073709551615 - 2147483648)) % 2 ^ 31=b % 2 ^ 31:=by
  rw [Nat.and_mod_two_pow,show (18446744073709551615 - 2147483648) % 2 ^ 31=2 ^ 31 - 1 by decide,Nat.and_two_pow_sub_one_eq_mod,Nat.mod_mod]
 have d:(b &&& (18446744073709551615 - 2147483648)) / 2 ^ 31=0:=by
  rw [Nat.and_div_two_pow,show (18446744073709551615 - 2147483648) / 2 ^ 31=8589934590 by decide]
  have c:b / 2 ^ 31=0 \/ b / 2 ^ 31=1:=by omega
  rcases c with c | c <;> rw [c] <;> decide
 unfold mg
 generalize b &&& (18446744073709551615 - 2147483648)=q at a d
 omega
theorem mA (b:Nat) (h:b<18446744073709551616):bits BinOp.andNot IntKind.u64 (b:Int) 9223372036854775808=((mg 9223372036854775808 b:Nat):Int):=by
 have e:=u64_andNot_nat b 9223372036854775808 (by omega) (by omega)
 rw [show ((9223372036854775808:Nat):Int)=9223372036854775808 from rfl] at e
 rw [e]
 congr 1
 exact Nat.and_two_pow_sub_one_eq_mod b 63
theorem pG (b:Nat) (h:b<4294967296):bits BinOp.and IntKind.u64 (b:Int) 2147483648=((if ng 2147483648 b then 2147483648 else 0:Nat):Int):=by
 have e:=u64_and_nat b 2147483648 (by omega) (by omega)
 rw [show ((2147483648:Nat):Int)=2147483648 from rfl] at e
 rw [e]
 congr 1
 rw [show 2147483648=2 ^ 31 from rfl,nat_bit 31 b]
 unfold ng
 by_cases c:2 ^ 31<=b
 . rw [decide_eq_true c,if_pos rfl,show b / 2 ^ 31=1 by omega]
 . rw [decide_eq_false c,show b / 2 ^ 31=0 by omega];rfl
theorem pH (b:Nat) (h:b<18446744073709551616):bits BinOp.and IntKind.u64 (b:Int) 9223372036854775808=((if ng 9223372036854775808 b then 9223372036854775808 else 0:Nat):Int):=by
 have e:=u64_and_nat b 9223372036854775808 (by omega) (by omega)
 rw [show ((9223372036854775808:Nat):Int)=9223372036854775808 from rfl] at e
 rw [e]
 congr 1
 rw [show 9223372036854775808=2 ^ 63 from rfl,nat_bit 63 b]
 unfold ng
 by_cases c:2 ^ 63<=b
 . rw [decide_eq_true c,if_pos rfl,show b / 2 ^ 63=1 by omega]
 . rw [decide_eq_false c,show b / 2 ^ 63=0 by omega];rfl
theorem kR (k x:Nat) (hk:2 ^ k<18446744073709551616) (h:x<2 ^ k):bits BinOp.or IntKind.u64 (x:Int) ((2 ^ k:Nat):Int)=((x+2 ^ k:Nat):Int):=by
 rw [u64_or_nat x (2 ^ k) (by omega) hk]
 congr 1
 rw [Nat.or_comm,nat_join k (2 ^ k) x (Nat.mod_self _) h,Nat.add_comm]
theorem tP {m:Nat}(h:m<2147483648):bits BinOp.or IntKind.u64 (m:Int) 2147483648=((m+2147483648:Nat):Int):=kR 31 m (by decide) h
theorem tQ {m:Nat}(h:m<9223372036854775808):bits BinOp.or IntKind.u64 (m:Int) 9223372036854775808=((m+9223372036854775808:Nat):Int):=kR 63 m (by decide) h
theorem mJ {m:Nat}(h:m<8388608):bits BinOp.or IntKind.u64 (m:Int) 8388608=((m+8388608:Nat):Int):=kR 23 m (by decide) h
theorem mK {m:Nat}(h:m<4503599627370496):bits BinOp.or IntKind.u64 (m:Int) 4503599627370496=((m+4503599627370496:Nat):Int):=kR 52 m (by decide) h
theorem fC {m:Nat}(h:m<18446744073709551616):bits BinOp.and IntKind.u64 (m:Int) 8388607=((m % 8388608:Nat):Int):=by
 have e:=u64_and_nat m 8388607 h (by decide)
 rw [show ((8388607:Nat):Int)=8388607 from rfl] at e
 rw [e]
 congr 1
 exact Nat.and_two_pow_sub_one_eq_mod m 23
theorem fF {m:Nat}(h:m<18446744073709551616):bits BinOp.and IntKind.u64 (m:Int) 4503599627370495=((m % 4503599627370496:Nat):Int):=by
 have e:=u64_and_nat m 4503599627370495 h (by decide)
 rw [show ((4503599627370495:Nat):Int)=4503599627370495 from rfl] at e
 rw [e]
 congr 1
 exact Nat.and_two_pow_sub_one_eq_mod m 52
theorem iS {g:Nat}(h:0<g) (b:Nat):mg g b<g:=Nat.mod_lt b h
end Go.Proofs.YtblkokjkmbpejaaGreatDoor
namespace Go.Proofs.YtblkokjkmbpejaaGreatDoor
def ly (f:Nat) (L:Int) (M:Nat) (E:Int):Nat:=(E - L).toNat * 2 ^ f+M
theorem oI {f:Nat}{t L:Int}(ht:2<=t) {M:Nat}{E:Int}(g:Good f L M E):out f t L M E=if L+t - 2<E then none else some (ly f L M E):=by
 obtain ⟨a,b,c⟩:=g
 unfold out ly
 have p:=Nat.two_pow_pos f
 rw [Nat.pow_succ] at a
 by_cases q:L+t - 2<E
 . rw [if_pos q,if_pos]
   right;right
   refine ⟨?_,by omega⟩
   rcases c with c | c
   . exact c
   . omega
 . rw [if_neg q,if_neg]
   . by_cases k:M<2 ^ f
     . rw [if_pos k]
       have:E=L:=by
        rcases c with c | c
        . omega
        . exact c
       subst this
       simp
     . rw [if_neg k]
       congr 1
       have:(E - L+1).toNat=(E - L).toNat+1:=by omega
       rw [this,Nat.succ_mul]
       omega
   . rw [Nat.pow_succ]
     rintro (x | x | ⟨x,y⟩) <;> omega
theorem rD {f:Nat}{t L:Int}(ht:2<=t) {m:Nat}{e:Int}(m0:m ≠ 0) (h:L+t - 2+f<e):pk f t L m e=none:=by
 obtain ⟨M,E,q,fin,r⟩:=PK.ex f t L e m0
 rw [r]
 rcases fin.cases with g | ⟨_,b⟩
 . rw [oI ht g,if_pos]
   obtain ⟨a1,a2,a3⟩:=g
   by_cases c:E<=e
   . have d:=q.up c
     have:2 ^ (e - E).toNat<=M:=by
      rw [d]
      exact Nat.le_mul_of_pos_left _ (Nat.pos_of_ne_zero m0)
     have:2 ^ (e - E).toNat<2 ^ (f+1):=Nat.lt_of_le_of_lt this a1
     have:=(Nat.pow_lt_pow_iff_right (show 1<2 by decide)).1 this
     omega
   . omega
 . exact cP b
theorem aAd {f:Nat}{L:Int}{M:Nat}{E:Int}(g:Good f L M E):mt f (ly f L M E)=M/\xp f L (ly f L M E)=E:=by
 obtain ⟨a,b,c⟩:=g
 have p:=Nat.two_pow_pos f
 rw [Nat.pow_succ] at a
 by_cases k:M<2 ^ f
 . have eL:E=L:=by
    rcases c with c | c
    . omega
    . exact c
   subst eL
   have e:ly f E M E=M:=by unfold ly;rw [Int.sub_self];simp
   have z:M / 2 ^ f=0:=Nat.div_eq_of_lt k
   rw [e]
   exact ⟨by unfold mt;rw [if_pos z],by unfold xp;rw [if_pos z]⟩
 . have e:ly f L M E=((E - L).toNat+1) * 2 ^ f+(M - 2 ^ f):=by
    unfold ly
    rw [Nat.succ_mul]
    omega
   have hd:(((E - L).toNat+1) * 2 ^ f+(M - 2 ^ f)) / 2 ^ f=(E - L).toNat+1:=by
    rw [Nat.mul_comm,Nat.mul_add_div p,Nat.div_eq_of_lt (by omega),Nat.add_zero]
   have hm:(((E - L).toNat+1) * 2 ^ f+(M - 2 ^ f)) % 2 ^ f=M - 2 ^ f:=by
    rw [Nat.mul_comm,Nat.mul_add_mod,Nat.mod_eq_of_lt (by omega)]
   rw [e]
   refine ⟨?_,?_⟩
   . unfold mt
     rw [hd,hm,if_neg (Nat.succ_ne_zero _)]
     omega
   . unfold xp
     rw [hd,if_neg (Nat.succ_ne_zero _)]
     omega
theorem aBN (f:Nat) (L:Int) (M:Nat) (E:Int):ly f L (M+1) E=ly f L M E+1:=rfl
theorem aBM {f:Nat}(hf:0<f) (L:Int) (M:Nat) (E:Int):ly f L M E % 2=M % 2:=by
 obtain ⟨k,rfl⟩:∃ k,f=k+1:=⟨f - 1,by omega⟩
 unfold ly
 rw [Nat.pow_succ,<- Nat.mul_assoc,Nat.add_comm,Nat.add_mul_mod_self_right]
theorem aAe {f:Nat}{L:Int}{E:Int}(h:L<=E):ly f L (2 ^ f) (E+1)=ly f L (2 ^ (f+1)) E:=by
 unfold ly
 rw [show (E+1 - L).toNat=(E - L).toNat+1 by omega,Nat.succ_mul,Nat.pow_succ,Nat.mul_two]
 omega
theorem aAt {n d y q r:Nat}{e l:Int}(d0:0<d) (y0:0<y) (h:Eqv (n * y) e ((q * y+r) * d) l):(vL n d e (2 * q+1) (l - 1) ↔ 2 * r<y)/\(vE n d e (2 * q+1) (l - 1) ↔ 2 * r=y):=by
 have a:=lF (m:=2 * q+1) (x:=l - 1) d0 y0 h
 have b:=aDS (m:=2 * q+1) (x:=l - 1) d0 y0 h
 rw [a,b]
 have e1:ev (l - 1) (q * y+r) l=(q * y+r) * 2:=lP _ _
 have e2:ev (l - 1) (2 * q+1) (l - 1)=2 * q+1:=bT _ _
 have e3:y * (2 * q+1)=q * y * 2+y:=by rw [Nat.mul_add,Nat.mul_one,Nat.mul_comm 2 q,<- Nat.mul_assoc,Nat.mul_comm y q]
 constructor
 . constructor
   . intro k
     have:=k.at (l - 1) (by omega) (Int.le_refl _)
     rw [e1,e2,e3] at this
     omega
   . intro k
     refine ⟨l - 1,by omega,Int.le_refl _,?_⟩
     rw [e1,e2,e3]
     omega
 . constructor
   . intro k
     have:=k.at (l - 1) (by omega) (Int.le_refl _)
     rw [e1,e2,e3] at this
     omega
   . intro k
     refine ⟨l - 1,by omega,Int.le_refl _,?_⟩
     rw [e1,e2,e3]
     omega
theorem yS {f:Nat}{L:Int}{n d:Nat}{e:Int}{more:Bool}{b:Nat}(d0:0<d) (h:¬ vL n d e (mt f b) (xp f L b)) (k:Up f L n d e more b):RD f L n d e more b:=by
 refine ⟨k,?_⟩
 by_cases z:b=0
 . exact .inl z
 . right
   intro u
   obtain ⟨c,rfl⟩:∃ c,b=c+1:=⟨b - 1,by omega⟩
   rw [Nat.add_sub_cancel] at u
   rcases u with u | ⟨u,_,_⟩
   . exact h (u.up (jQ f L c).le)
   . exact h (u.up d0 (jQ f L c))
theorem yT {f:Nat}{L:Int}{n d:Nat}{e:Int}{more:Bool}{b:Nat}(d0:0<d) (h:¬ Up f L n d e more b) (k:vL n d e (mt f (b+1)) (xp f L (b+1)) \/ vE n d e (mt f (b+1)) (xp f L (b+1))):RD f L n d e more (b+1):=by
 refine ⟨?_,.inr ?_⟩
 . rcases k with k | k
   . exact .inl (k.up (jX f L (b+1)).le)
   . exact .inl (k.up d0 (jX f L (b+1)))
 . rw [Nat.add_sub_cancel]
   exact h
def rU (more:Bool) (q r y:Nat):Bool:=decide (y<2 * r \/ (2 * r=y/\(more=true \/ q % 2=1)))
def rQ (more:Bool) (q r y:Nat):Nat:=q+(if rU more q r y then 1 else 0)
theorem aDh {f:Nat}(hf:0<f) {L:Int}{n d y q r:Nat}{e l:Int}(more:Bool) (d0:0<d) (hr:r<y) (g:Good f L q l) (h:Eqv (n * y) e ((q * y+r) * d) l):RD f L n d e more (ly f L (rQ more q r y) l):=by
 have y0:0<y:=by omega
 obtain ⟨e1,e2⟩:=aAd g
 obtain ⟨i1,i2⟩:=aAt d0 y0 h
 have ev2:=aBM hf L q l
 have up:Up f L n d e more (ly f L q l) ↔ rU more q r y=false:=by
  unfold Up hM hX
  rw [e1,e2,i1,i2,ev2]
  unfold rU
  rw [decide_eq_false_iff_not]
  have c:q % 2=0 \/ q % 2=1:=by omega
  cases more
  . simp
    omega
  . simp
    omega
 unfold rQ
 by_cases u:rU more q r y=true
 . rw [if_pos u,aBN]
   refine yT d0 (fun x=>by rw [up.1 x] at u;cases u) (.inl ?_)
   have k:vL n d e (q+1) l:=by
    rw [lF (m:=q+1) (x:=l) d0 y0 h]
    refine ⟨l,Int.le_refl _,Int.le_refl _,?_⟩
    rw [bT,bT,Nat.mul_add,Nat.mul_one,Nat.mul_comm y q]
    omega
   have s:=iT f L (ly f L q l)
   rw [e1,e2] at s
   exact k.up s.lE
 . rw [if_neg u,Nat.add_zero]
   refine yS d0 ?_ (up.2 (Bool.eq_false_iff.2 u))
   rw [e1,e2]
   intro x
   rw [lF (m:=q) (x:=l) d0 y0 h] at x
   have:=x.at l (Int.le_refl _) (Int.le_refl _)
   rw [bT,bT,Nat.mul_comm y q] at this
   omega
theorem aEe {f T:Nat}{L:Int}(hT:2<=T) {Q:Nat}{l:Int}(hQ:Q ≠ 0) (h1:Q<=2 ^ (f+1)) (h2:L<=l) (h3:2 ^ f<=Q \/ l=L):pk f (T:Int) L Q l=if ly f L Q l<T * 2 ^ f then some (ly f L Q l) else none:=by
 have p:=Nat.two_pow_pos f
 have fits:∀ {M:Nat} {E:Int},Good f L M E -> ((¬ L+(T:Int) - 2<E) ↔ ly f L M E<T * 2 ^ f):=by
  rintro M E ⟨a,b,c⟩
  rw [Nat.pow_succ] at a
  unfold ly
  obtain ⟨j,hj⟩:∃ j,j=(E - L).toNat:=⟨_,rfl⟩
  rw [<- hj]
  constructor
  . intro x
    have:(j+2) * 2 ^ f<=T * 2 ^ f:=Nat.mul_le_mul_right _ (by omega)
    rw [Nat.add_mul] at this
    omega
  . intro x y
    have c':2 ^ f<=M:=by
     rcases c with c | c
     . exact c
     . omega
    have:T * 2 ^ f<=(j+1) * 2 ^ f:=Nat.mul_le_mul_right _ (by omega)
    rw [Nat.succ_mul] at this
    omega
 by_cases k:Q<2 ^ (f+1)
 . have g:Good f L Q l:=⟨k,h2,h3⟩
   rw [kU hQ g.fin,oI (by omega) g]
   by_cases c:L+(T:Int) - 2<l
   . rw [if_pos c,if_neg (fun x=>((fits g).2 x) c)]
   . rw [if_neg c,if_pos ((fits g).1 c)]
 . have e:Q=2 ^ (f+1):=by omega
   have g:Good f L (2 ^ f) (l+1):=⟨Nat.pow_lt_pow_right (by decide) (by omega),by omega,.inl (Nat.le_refl _)⟩
   have q:Eqv Q l (2 ^ f) (l+1):=by
    have:=Eqv.half (m:=2 ^ f * 2) l (Nat.mul_mod_left _ _)
    rw [Nat.mul_div_cancel _ (by decide),<- Nat.pow_succ,<- e] at this
    exact this
   rw [lS hQ q,kU (q.pos hQ) g.fin,oI (by omega) g,e,<- aAe h2]
   by_cases c:L+(T:Int) - 2<l+1
   . rw [if_pos c,if_neg (fun x=>((fits g).2 x) c)]
   . rw [if_neg c,if_pos ((fits g).1 c)]
def Fst (n d:Nat) (E:Int):Prop:=¬ vL n d 0 1 E/\vL n d 0 1 (E+1)
theorem eJ (K x:Int):ev K 1 x=2 ^ (x - K).toNat:=by unfold ev;rw [Nat.one_mul]
theorem aCT {n d:Nat}(d0:d ≠ 0):vL n d 0 1 ((ln n:Int) - (ln d:Int)+1):=by
 have a:=aBd n
 have b:=aBc d0
 have p:=wL d0
 refine ⟨-(ln d:Int),by omega,by omega,?_⟩
 rw [eJ]
 unfold ev
 rw [show ((ln n:Int) - (ln d:Int)+1 - -(ln d:Int)).toNat=ln n+1 by omega,show (0 - -(ln d:Int)).toNat=ln d by omega]
 calc n * 2 ^ ln d<2 ^ ln n * 2 ^ ln d:=Nat.mul_lt_mul_of_pos_right a (Nat.two_pow_pos _)
  _=2 ^ (ln d - 1) * 2 ^ (ln n+1):=by rw [<- Nat.pow_add,<- Nat.pow_add,show ln n+ln d=ln d - 1+(ln n+1) by omega]
  _<=d * 2 ^ (ln n+1):=Nat.mul_le_mul_right _ b
theorem aCU {n d:Nat}(n0:n ≠ 0):¬ vL n d 0 1 ((ln n:Int) - (ln d:Int) - 1):=by
 intro k
 have a:=aBd d
 have b:=aBc n0
 have p:=wL n0
 have q:=k.at (-(ln d:Int) - 1) (by omega) (by omega)
 rw [eJ] at q
 unfold ev at q
 rw [show ((ln n:Int) - (ln d:Int) - 1 - (-(ln d:Int) - 1)).toNat=ln n by omega,show (0 - (-(ln d:Int) - 1)).toNat=ln d+1 by omega] at q
 have r:2 ^ ln d * 2 ^ ln n<=n * 2 ^ (ln d+1):=by
  calc 2 ^ ln d * 2 ^ ln n=2 ^ (ln n - 1) * 2 ^ (ln d+1):=by rw [<- Nat.pow_add,<- Nat.pow_add,show ln d+ln n=ln n - 1+(ln d+1) by omega]
   _<=n * 2 ^ (ln d+1):=Nat.mul_le_mul_right _ b
 have s:d * 2 ^ ln n<=2 ^ ln d * 2 ^ ln n:=Nat.mul_le_mul_right _ (Nat.le_of_lt a)
 omega
theorem aCV {n d:Nat}(n0:n ≠ 0) (d0:d ≠ 0):(vL n d 0 1 ((ln n:Int) - (ln d:Int)) -> Fst n d ((ln n:Int) - (ln d:Int) - 1))/\(¬ vL n d 0 1 ((ln n:Int) - (ln d:Int)) -> Fst n d ((ln n:Int) - (ln d:Int))):=by
 refine ⟨fun k=>⟨aCU n0,?_⟩,fun k=>⟨k,aCT d0⟩⟩
 rw [show (ln n:Int) - (ln d:Int) - 1+1=(ln n:Int) - (ln d:Int) by omega]
 exact k
theorem oN {f:Nat}{L:Int}{n d:Nat}{e E l:Int}(d0:d ≠ 0) (h:Fst n d E) (hl:l=max (E+e - f) L):Good f L (n * 2 ^ (e - l).toNat / (d * 2 ^ (l - e).toNat)) l/\Eqv (n * (d * 2 ^ (l - e).toNat)) e (n * 2 ^ (e - l).toNat * d) l:=by
 have dp:0<d:=Nat.pos_of_ne_zero d0
 have yp:0<d * 2 ^ (l - e).toNat:=Nat.mul_pos dp (Nat.two_pow_pos _)
 have lo:=fun x=>h.1 x
 have hi:=h.2
 have key:Eqv (n * (d * 2 ^ (l - e).toNat)) e (n * 2 ^ (e - l).toNat * d) l:=by
  rcases Int.le_total e l with c | c
  . refine Eqv.of_dn c ?_
    rw [show (e - l).toNat=0 by omega,Nat.pow_zero,Nat.mul_one,<- Nat.mul_assoc]
  . refine Eqv.symm (Eqv.of_dn c ?_)
    rw [show (l - e).toNat=0 by omega,Nat.pow_zero,Nat.mul_one]
    rw [Nat.mul_right_comm]
 -- the number against 2^x,at the two ends
 have sh:∀ k:Nat,∀ x:Int,x=l+k - e -> (vL n d 0 1 x ↔ n * 2 ^ (e - l).toNat<d * 2 ^ (l - e).toNat * 2 ^ k):=by
  intro k x hx
  have s:=lF (n:=n) (d:=d) (n':=n * 2 ^ (e - l).toNat) (d':=d * 2 ^ (l - e).toNat) (m:=2 ^ k) (e:=e) (e':=l) (x:=l) dp yp key
  have t:vL n d 0 1 x ↔ vL n d e (2 ^ k) l:=by
   constructor
   . intro u
     have q:=u.at (min (min 0 x) (min (l - e) (-e))) (by omega) (by omega)
     obtain ⟨K,hK⟩:∃ K,K=min (min 0 x) (min (l - e) (-e)):=⟨_,rfl⟩
     rw [<- hK] at q
     refine ⟨K+e,by omega,by omega,?_⟩
     rw [eJ] at q
     unfold ev at q ⊢
     rw [show (e - (K+e)).toNat=(0 - K).toNat by omega,<- Nat.pow_add,show k+(l - (K+e)).toNat=(x - K).toNat by omega]
     exact q
   . intro u
     have q:=u.at (min (min 0 x) (min (l - e) (-e))+e) (by omega) (by omega)
     obtain ⟨K,hK⟩:∃ K,K=min (min 0 x) (min (l - e) (-e)):=⟨_,rfl⟩
     rw [<- hK] at q
     refine ⟨K,by omega,by omega,?_⟩
     rw [eJ]
     unfold ev at q ⊢
     rw [show (e - (K+e)).toNat=(0 - K).toNat by omega,<- Nat.pow_add,show k+(l - (K+e)).toNat=(x - K).toNat by omega] at q
     exact q
  rw [t,s]
  constructor
  . intro u
    have:=u.at l (Int.le_refl _) (Int.le_refl _)
    rw [bT,bT] at this
    exact this
  . intro u
    exact ⟨l,Int.le_refl _,Int.le_refl _,by rw [bT,bT];exact u⟩
 refine ⟨⟨?_,by omega,?_⟩,key⟩
 . rw [Nat.div_lt_iff_lt_mul yp,Nat.mul_comm (2 ^ (f+1))]
   have up:vL n d 0 1 (l+(f+1:Nat) - e):=by
    refine hi.up ⟨min (E+1) (l+(f+1:Nat) - e),by omega,by omega,?_⟩
    rw [eJ,eJ]
    exact Nat.pow_le_pow_right (by decide) (by omega)
   exact (sh (f+1) _ rfl).1 up
 . by_cases c:l=L
   . exact .inr c
   . left
     rw [Nat.le_div_iff_mul_le yp,Nat.mul_comm (2 ^ f)]
     have hE:E=l+(f:Nat) - e:=by omega
     exact Nat.not_lt.1 (fun x=>lo ((sh f E hE).2 x))
def dG (n d:Nat) (x:Int):Bool:=decide (n * 2 ^ (-x).toNat<d * 2 ^ x.toNat)
theorem yR (n d:Nat) (x:Int):vL n d 0 1 x ↔ dG n d x=true:=by
 unfold dG
 rw [decide_eq_true_iff]
 have e1:ev (min 0 x) n 0=n * 2 ^ (-x).toNat:=by unfold ev;rw [show (0 - min 0 x).toNat=(-x).toNat by omega]
 have e2:ev (min 0 x) 1 x=2 ^ x.toNat:=by rw [eJ,show (x - min 0 x).toNat=x.toNat by omega]
 constructor
 . intro h
   have:=h.at (min 0 x) (by omega) (by omega)
   rw [e1,e2] at this
   exact this
 . intro h
   exact ⟨min 0 x,by omega,by omega,by rw [e1,e2];exact h⟩
def fE (n d:Nat):Int:=if dG n d ((ln n:Int) - (ln d:Int)) then (ln n:Int) - (ln d:Int) - 1 else (ln n:Int) - (ln d:Int)
def lE' (f:Nat) (L:Int) (n d:Nat) (e:Int):Int:=max (fE n d+e - f) L
theorem vW {n d:Nat}(n0:n ≠ 0) (d0:d ≠ 0):Fst n d (fE n d):=by
 obtain ⟨a,b⟩:=aCV n0 d0
 unfold fE
 by_cases c:dG n d ((ln n:Int) - (ln d:Int))=true
 . rw [if_pos c];exact a ((yR _ _ _).2 c)
 . rw [if_neg c];exact b (fun x=>c ((yR _ _ _).1 x))
def rX (n:Nat) (e l:Int):Nat:=n * 2 ^ (e - l).toNat
def rY (d:Nat) (e l:Int):Nat:=d * 2 ^ (l - e).toNat
def rdM (f:Nat) (L:Int) (n d:Nat) (e:Int) (more:Bool):Nat :=
 rQ more (rX n e (lE' f L n d e) / rY d e (lE' f L n d e)) (rX n e (lE' f L n d e) % rY d e (lE' f L n d e)) (rY d e (lE' f L n d e))
def rdN (f:Nat) (L:Int) (n d:Nat) (e:Int) (more:Bool):Nat:=ly f L (rdM f L n d e more) (lE' f L n d e)
theorem oO {f:Nat}{L:Int}{n d:Nat}(e:Int) (n0:n ≠ 0) (d0:d ≠ 0):Good f L (rX n e (lE' f L n d e) / rY d e (lE' f L n d e)) (lE' f L n d e):=(oN d0 (vW n0 d0) rfl).1
theorem aDp {f:Nat}(hf:0<f) {L:Int}{n d:Nat}{e:Int}(more:Bool) (n0:n ≠ 0) (d0:d ≠ 0):RD f L n d e more (rdN f L n d e more):=by
 obtain ⟨g,h⟩:=oN (f:=f) (L:=L) (e:=e) d0 (vW n0 d0) rfl
 have yp:0<rY d e (lE' f L n d e):=Nat.mul_pos (Nat.pos_of_ne_zero d0) (Nat.two_pow_pos _)
 refine aDh hf more (Nat.pos_of_ne_zero d0) (Nat.mod_lt _ yp) g ?_
 rw [Nat.div_add_mod']
 exact h
theorem aDq {f:Nat}(hf:0<f) {L:Int}{n d:Nat}{e:Int}{more:Bool}{b:Nat}(n0:n ≠ 0) (d0:d ≠ 0) (h:RD f L n d e more b):rdN f L n d e more=b:=RD.uniq (Nat.pos_of_ne_zero d0) (aDp hf more n0 d0) h
theorem xK {f:Nat}{L:Int}{n d:Nat}{e:Int}(more:Bool) (n0:n ≠ 0) (d0:d ≠ 0):rdM f L n d e more<=2 ^ (f+1)/\(2 ^ f<=rdM f L n d e more \/ lE' f L n d e=L)/\L<=lE' f L n d e:=by
 obtain ⟨a,b,c⟩:=oO (f:=f) (L:=L) e n0 d0
 unfold rdM rQ
 refine ⟨by split <;> omega,?_,b⟩
 rcases c with c | c
 . left;split <;> omega
 . exact .inr c
theorem aDo {f T:Nat}{L:Int}(hT:2<=T) {n d:Nat}{e:Int}(more:Bool) (n0:n ≠ 0) (d0:d ≠ 0) (h:rdM f L n d e more ≠ 0):pk f (T:Int) L (rdM f L n d e more) (lE' f L n d e)=if rdN f L n d e more<T * 2 ^ f then some (rdN f L n d e more) else none:=by
 obtain ⟨a,b,c⟩:=xK (f:=f) (L:=L) (e:=e) more n0 d0
 exact aEe hT h a c b
theorem aAF {f T:Nat}{L:Int}{n d:Nat}{e:Int}{more:Bool}(hT:2<=T) (n0:n ≠ 0) (d0:d ≠ 0) (h:rdM f L n d e more=0):rdN f L n d e more=0/\0<T * 2 ^ f:=by
 obtain ⟨a,b,c⟩:=xK (f:=f) (L:=L) (e:=e) more n0 d0
 have p:=Nat.two_pow_pos f
 refine ⟨?_,Nat.mul_pos (by omega) p⟩
 unfold rdN ly
 rw [h] at b ⊢
 rcases b with b | b
 . omega
 . rw [b,Int.sub_self];simp
def rdA (f T:Nat) (L:Int) (n d:Nat) (e:Int) (more:Bool):Nat × Bool :=
 if n=0 then (0,false) else if rdN f L n d e more<T * 2 ^ f then (rdN f L n d e more,false) else (T * 2 ^ f,true)
theorem aDn {f T:Nat}(hf:0<f) {L:Int}{n d:Nat}{e:Int}{more:Bool}{b:Nat}(n0:n ≠ 0) (d0:d ≠ 0) (h:RD f L n d e more b):rdA f T L n d e more=if b<T * 2 ^ f then (b,false) else (T * 2 ^ f,true):=by
 unfold rdA
 rw [if_neg n0,aDq hf n0 d0 h]
end Go.Proofs.YtblkokjkmbpejaaGreatDoor
