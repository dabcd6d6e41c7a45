/-
  Holds: UPn1 UPpM UPwF UPn3 UPn4 UPgB UPgM.
-/
import Derived.Test.YtejgpbhionadbaaGreatDoorRows
import Derived.Laws.Externs
import Derived.WalkKit
import Derived.WalkSpells
import Derived.WalkLawsBesides
import Derived.Lib.Mul64
import Derived.Lib.TrailingZeros
import Derived.Lib.ItoaNum
import Derived.Deep.OwnRows
import Derived.Laws.CopyOwn
import Derived.BigQuiet
import Derived.Deep.RegionHeld3
import Derived.Deep.LoopGhost
import Derived.Deep.AppendLies
import Derived.Deep.DeepCutAuto
import Derived.Stop.Asserts
import Derived.RowKitTokens
import Derived.Lib.Strings
import Derived.Lib.BufferWrite
import Derived.Lib.ConvBytes
import Derived.Test.YtejgpbhionadbaaGreatDoorXl16
set_option maxRecDepth 100000
set_option maxHeartbeats 4000000
namespace Go.Proofs.YtejgpbhionadbaaGreatDoor
open Go.RowKit
def val (h l:Int):Nat:=(h * 18446744073709551616+l).toNat
def hiW (v:Nat):Int:=((v / 18446744073709551616:Nat):Int)
def loW (v:Nat):Int:=((v % 18446744073709551616:Nat):Int)
theorem aLP {h l:Int}(h1:aD h) (h2:aD l):val h l<340282366920938463463374607431768211456:=by
 unfold aD at *;unfold val;omega
theorem aIV {h l:Int}(h1:aD h) (h2:aD l):hiW (val h l)=h:=by
 unfold aD at *;unfold val hiW;omega
theorem aI1 {h l:Int}(h1:aD h) (h2:aD l):loW (val h l)=l:=by
 unfold aD at *;unfold val loW;omega
theorem aGG:hiW 0=0:=by decide
theorem aGO:loW 0=0:=by decide
theorem aJO (a b s:Nat) (hb:b<18446744073709551616) (h1:s<=64) :
 ((a * 18446744073709551616+b) * 2 ^ s) / 18446744073709551616=a * 2 ^ s+b / 2 ^ (64 - s)/\((a * 18446744073709551616+b) * 2 ^ s) % 18446744073709551616=b * 2 ^ s % 18446744073709551616/\b / 2 ^ (64 - s)<2 ^ s:=by
 have p2:2 ^ (64 - s) * 2 ^ s=18446744073709551616:=by rw [<- Nat.pow_add,show 64 - s+s=64 by omega]
 have s0:0<2 ^ s:=Nat.pow_pos (by omega)
 have i4:b * 2 ^ s / 18446744073709551616=b / 2 ^ (64 - s):=by rw [<- p2,Nat.mul_div_mul_right _ _ s0]
 have i5:b / 2 ^ (64 - s)<2 ^ s:=by
  rw [Nat.div_lt_iff_lt_mul (Nat.pow_pos (by omega)),Nat.mul_comm,p2];exact hb
 have e:(a * 18446744073709551616+b) * 2 ^ s=a * 2 ^ s * 18446744073709551616+b * 2 ^ s:=by rw [Nat.add_mul,Nat.mul_right_comm]
 rw [e]
 refine ⟨by omega,by omega,i5⟩
theorem aFq {h l:Int}(w1:aD h) (w2:aD l) (s:Nat) (h1:s<=64) :
 bits .or .u64 (IntKind.u64.wrap (h * 2 ^ s)) (l / 2 ^ (64 - s))=hiW (val h l * 2 ^ s % 340282366920938463463374607431768211456)/\IntKind.u64.wrap (l * 2 ^ s)=loW (val h l * 2 ^ s % 340282366920938463463374607431768211456):=by
 obtain ⟨a,rfl⟩:=Int.eq_ofNat_of_zero_le w1.1
 obtain ⟨b,rfl⟩:=Int.eq_ofNat_of_zero_le w2.1
 have w22:=w2.2
 have hv:val (a:Int) (b:Int)=a * 18446744073709551616+b:=by unfold val;omega
 obtain ⟨e1,e2,e3⟩:=aJO a b s (by omega) h1
 have c1:IntKind.u64.wrap ((a:Int) * 2 ^ s)=((a * 2 ^ s % 18446744073709551616:Nat):Int):=by rw [aL,<- Int.natCast_mul,IntKind.wrap_u64];omega
 have c2:IntKind.u64.wrap ((b:Int) * 2 ^ s)=((b * 2 ^ s % 18446744073709551616:Nat):Int):=by rw [aL,<- Int.natCast_mul,IntKind.wrap_u64];omega
 have c3:((b:Int) / 2 ^ (64 - s))=((b / 2 ^ (64 - s):Nat):Int):=by rw [aL,<- Int.natCast_ediv]
 have l3:b / 2 ^ (64 - s)<18446744073709551616:=Nat.lt_of_le_of_lt (Nat.div_le_self _ _) (by omega)
 constructor
 . rw [c1,c3,bits_or_u64_nat _ _ (Nat.mod_lt _ (by omega)) l3,aFp a _ s h1 e3,<- e1,hv]
   unfold hiW
   generalize (a * 18446744073709551616+b) * 2 ^ s=V
   omega
 . rw [c2,<- e2,hv]
   unfold loW
   generalize (a * 18446744073709551616+b) * 2 ^ s=V
   omega
theorem aA6 {h l:Int}(w1:aD h) (w2:aD l) (s:Nat) (h1:64<=s) :
 IntKind.u64.wrap (l * 2 ^ (s - 64))=hiW (val h l * 2 ^ s % 340282366920938463463374607431768211456)/\0=loW (val h l * 2 ^ s % 340282366920938463463374607431768211456):=by
 obtain ⟨a,rfl⟩:=Int.eq_ofNat_of_zero_le w1.1
 obtain ⟨b,rfl⟩:=Int.eq_ofNat_of_zero_le w2.1
 have hv:val (a:Int) (b:Int)=a * 18446744073709551616+b:=by unfold val;omega
 have p:2 ^ s=2 ^ (s - 64) * 18446744073709551616:=by
  rw [show (18446744073709551616:Nat)=2 ^ 64 by decide,<- Nat.pow_add,show s - 64+64=s by omega]
 have e:(a * 18446744073709551616+b) * 2 ^ s=a * 2 ^ (s - 64) * 340282366920938463463374607431768211456+b * 2 ^ (s - 64) * 18446744073709551616:=by
  rw [p,Nat.add_mul]
  have x1:a * 18446744073709551616 * (2 ^ (s - 64) * 18446744073709551616)=a * 2 ^ (s - 64) * 340282366920938463463374607431768211456:=by
   generalize 2 ^ (s - 64)=q
   rw [Nat.mul_mul_mul_comm]
  have x2:b * (2 ^ (s - 64) * 18446744073709551616)=b * 2 ^ (s - 64) * 18446744073709551616:=by rw [Nat.mul_assoc]
  rw [x1,x2]
 have c2:IntKind.u64.wrap ((b:Int) * 2 ^ (s - 64))=((b * 2 ^ (s - 64) % 18446744073709551616:Nat):Int):=by rw [aL,<- Int.natCast_mul,IntKind.wrap_u64];omega
 rw [hv,e,c2]
 unfold hiW loW
 generalize a * 2 ^ (s - 64)=x
 generalize b * 2 ^ (s - 64)=y
 constructor <;> omega
theorem aHA (v s:Nat) (h1:128<=s):v * 2 ^ s % 340282366920938463463374607431768211456=0:=by
 have p:2 ^ s=2 ^ (s - 128) * 340282366920938463463374607431768211456:=by
  rw [show (340282366920938463463374607431768211456:Nat)=2 ^ 128 by decide,<- Nat.pow_add,show s - 128+128=s by omega]
 rw [p,<- Nat.mul_assoc,Nat.mul_mod_left]
def shl (v:Nat) (n:Int):Nat:=v * 2 ^ n.toNat % 340282366920938463463374607431768211456
theorem aAI (a b:Int) (h1:aD a) (h2:aD b) (w:World) :
 Cb 233 #[vU a,vU b] w (.agg #[vU (mHi a b),vU (mLo a b)]):=by
 go_enter Tryz.func233,Tryz.ntmps233
 go_wp2_with (go_at_call 263;refine (uH a b h1 h2 _).mono ?_;rintro e w' ⟨rfl,rfl⟩)
 exact bodyPost_ret (v:=.agg #[vU (mHi a b),vU (mLo a b)]) (by simp [results,Tryz.results233,go_sem]) rfl ⟨rfl,bz _ _⟩
theorem aLy {x x' y y' z z':Int}(hx:x=x') (hy:y=y') (hz:z=z') :
 Ending.returned (.tuple #[vU x,.agg #[vU y,vU z]])=.returned (.tuple #[vU x',.agg #[vU y',vU z']]):=by rw [hx,hy,hz]
theorem aFR (h l b:Int) (h1:aD h) (h2:aD l) (h3:aD b) (w:World) :
 Cb 196 #[.agg #[vU h,vU l],vU b] w (.tuple #[vU (nY h l b),.agg #[vU (aCo h l b),vU (mLo l b)]]):=by
 have k1:=qP h2 h3
 have k2:=zD h b
 go_enter Tryz.func196,Tryz.ntmps196
 go_wp2_with (first
  | (go_at_call_of 233 (vU l);refine (aAI l b h2 h3 _).mono ?_;rintro e wa ⟨rfl,hba⟩;obtain ⟨hca,hfa⟩:=dG hba;have hza:=hba.size;simp at hca hfa hza;have q0:w.heap.size<wa.heap.size:=(by omega);have q1:w.heap.size+1<wa.heap.size:=(by omega))
  | (go_at_call_of 233 (vU h);refine (aAI h b h1 h3 _).mono ?_;rintro e wb ⟨rfl,hbb⟩;obtain ⟨hcb,hfb⟩:=dG hbb;have hzb:=hbb.size;simp at hcb hfb hzb;have q2:w.heap.size<wb.heap.size:=(by omega);have q3:w.heap.size+1<wb.heap.size:=(by omega);have q4:wa.heap.size<wb.heap.size:=(by omega))
  | simp only [wE _ _ 0 k2 k1 (Int.le_refl 0) (by omega:(0:Int)<=1)])
 go_region
 all_goals
  go_wp2
  have c0:wb.cell? ⟨w.heap.size+1,0,none⟩=some (vU 0):=by rw [hcb _ _ (by omega),World.cell?_alloc_past _ _ _ q1,hca _ _ (by omega)];simp
  have c1:wb.cell? ⟨w.heap.size+1,1,none⟩=some (vU 0):=by rw [hcb _ _ (by omega),World.cell?_alloc_past _ _ _ q1,hca _ _ (by omega)];simp
  have b1:Bl w wb:=((((bz _ _).alloc (by simp) _).trans (hba.mono (by simp;omega))).alloc (by omega) _).trans (hbb.mono (by simp;omega))
  refine bodyPost_ret (v:=_) (by simp [results,Tryz.results196,go_sem,c0,c1,q3];rfl) rfl ⟨?_,(((b1.setCell (by simp) _).setCell (by simp) _).alloc (by simp [World.setCell];omega) _).drew⟩
  apply aLy
  . have e1:=aCp h1 h2 h3
    unfold nY aD at *
    rw [IntKind.wrap_u64];omega
  . rfl
  . rfl
end Go.Proofs.YtejgpbhionadbaaGreatDoor
namespace Go.Proofs.YtejgpbhionadbaaGreatDoor
def x2 (X:Nat):Int:=((X / 340282366920938463463374607431768211456:Nat):Int)
def x1 (X:Nat):Int:=((X / 18446744073709551616 % 18446744073709551616:Nat):Int)
def x0 (X:Nat):Int:=((X % 18446744073709551616:Nat):Int)
theorem aJ2 (X:Nat):aD (x1 X):=by unfold aD x1;omega
theorem aJ1 (X:Nat):aD (x0 X):=by unfold aD x0;omega
theorem aJ3 {X:Nat}(h:X<2 ^ 192):aD (x2 X):=by
 unfold aD x2
 rw [show 2 ^ 192=18446744073709551616 * 340282366920938463463374607431768211456 from rfl] at h
 have:=Nat.div_lt_of_lt_mul (Nat.mul_comm _ _ ▸ h)
 omega
theorem aMv {X Y:Nat}(h2:x2 X=x2 Y) (h1:x1 X=x1 Y) (h0:x0 X=x0 Y):X=Y:=by
 unfold x2 x1 x0 at *
 have a:X / 340282366920938463463374607431768211456=X / 18446744073709551616 / 18446744073709551616:=by rw [Nat.div_div_eq_div_mul]
 have b:Y / 340282366920938463463374607431768211456=Y / 18446744073709551616 / 18446744073709551616:=by rw [Nat.div_div_eq_div_mul]
 rw [a,b] at h2
 omega
theorem aEA (M b:Nat):nY (hiW M) (loW M) (b:Int)=x2 (M * b)/\aCo (hiW M) (loW M) (b:Int)=x1 (M * b)/\mLo (loW M) (b:Int)=x0 (M * b):=by
 unfold nY aCo mHi mLo a3C lL hiW loW x2 x1 x0
 have e0:M * b=M / 18446744073709551616 * b * 18446744073709551616+M % 18446744073709551616 * b:=by
  rw [Nat.mul_right_comm,<- Nat.add_mul,Nat.div_add_mod']
 have e1:((M / 18446744073709551616:Nat):Int) * (b:Int)=((M / 18446744073709551616 * b:Nat):Int):=(Int.natCast_mul _ _).symm
 have e2:((M % 18446744073709551616:Nat):Int) * (b:Int)=((M % 18446744073709551616 * b:Nat):Int):=(Int.natCast_mul _ _).symm
 rw [e1,e2,e0,show (340282366920938463463374607431768211456:Nat)=18446744073709551616 * 18446744073709551616 from rfl,<- Nat.div_div_eq_div_mul]
 generalize M / 18446744073709551616 * b=p
 generalize M % 18446744073709551616 * b=q
 refine ⟨?_,?_,?_⟩ <;> omega
theorem aFv {X A:Nat}(hA:A<2 ^ 128) (h:X+A<2 ^ 192):sHi (x1 X) (x0 X) (hiW A) (loW A)=x1 (X+A)/\sLo (x0 X) (loW A)=x0 (X+A) /\
 (sOv (x1 X) (x0 X) (hiW A) (loW A)=false -> x2 X=x2 (X+A))/\(sOv (x1 X) (x0 X) (hiW A) (loW A)=true -> x2 X+1=x2 (X+A)/\x2 X+1<18446744073709551616):=by
 rw [show 2 ^ 128=340282366920938463463374607431768211456 from rfl] at hA
 rw [show 2 ^ 192=6277101735386680763835789423207666416102355444464034512896 from rfl] at h
 unfold sHi sLo sOv a3C lL hiW loW x2 x1 x0
 rw [show (340282366920938463463374607431768211456:Nat)=18446744073709551616 * 18446744073709551616 from rfl,<- Nat.div_div_eq_div_mul,<- Nat.div_div_eq_div_mul]
 obtain ⟨c,hc⟩:∃ c,c=X % 18446744073709551616:=⟨_,rfl⟩
 obtain ⟨U,hU⟩:∃ U,U=X / 18446744073709551616:=⟨_,rfl⟩
 obtain ⟨d,hd⟩:∃ d,d=A % 18446744073709551616:=⟨_,rfl⟩
 obtain ⟨D,hD⟩:∃ D,D=A / 18446744073709551616:=⟨_,rfl⟩
 have e1:(X+A) % 18446744073709551616=(c+d) % 18446744073709551616:=by omega
 have e2:(X+A) / 18446744073709551616=U+D+(c+d) / 18446744073709551616:=by omega
 have e3:U+D+(c+d) / 18446744073709551616<340282366920938463463374607431768211456:=by omega
 have l1:c<18446744073709551616:=by omega
 have l2:d<18446744073709551616:=by omega
 have l3:D<18446744073709551616:=by omega
 rw [e1,e2,<- hc,<- hU,<- hd,<- hD]
 clear e1 e2 hc hU hd hD h hA
 refine ⟨by omega,by omega,?_,?_⟩
 . intro z
   rw [bne_eq_false_iff_eq] at z
   omega
 . intro z
   rw [bne_iff_ne] at z
   omega
theorem aEb {X:Nat}(h1:2 ^ 127<=X) (h2:X<2 ^ 192):∃ U b h r:Nat,U=X / 18446744073709551616/\U ≠ 0/\U<2 ^ 128/\b=bl U/\b<=128/\64<=b/\U * 2 ^ (128 - b)<2 ^ 128/\h=U * 2 ^ (128 - b) / 18446744073709551616 /\
 2 ^ 63<=h/\h<2 ^ 64/\X=h * 2 ^ b+r/\r<2 ^ b/\(r=0 ↔ (U * 2 ^ (128 - b) % 18446744073709551616=0/\X % 18446744073709551616=0)):=by
 obtain ⟨U,hU⟩:∃ U,U=X / 18446744073709551616:=⟨_,rfl⟩
 have B:(18446744073709551616:Nat)=2 ^ 64:=rfl
 have u1:2 ^ 63<=U:=by
  rw [hU,B,Nat.le_div_iff_mul_le (Nat.two_pow_pos _),<- Nat.pow_add]
  exact h1
 have u2:U<2 ^ 128:=by
  rw [hU,B,Nat.div_lt_iff_lt_mul (Nat.two_pow_pos _),<- Nat.pow_add]
  exact h2
 have u0:U ≠ 0:=by have:=Nat.two_pow_pos 63;omega
 obtain ⟨b,hb⟩:∃ b,b=bl U:=⟨_,rfl⟩
 have b1:U<2 ^ b:=hb ▸ dH U
 have b2:2 ^ (b - 1)<=U:=hb ▸ fN u0
 have b3:b<=128:=by
  apply Nat.le_of_not_lt
  intro c
  have:2 ^ 128<=2 ^ (b - 1):=Nat.pow_le_pow_right (by decide) (by omega)
  omega
 have b4:64<=b:=by
  apply Nat.le_of_not_lt
  intro c
  have:2 ^ b<=2 ^ 63:=Nat.pow_le_pow_right (by decide) (by omega)
  omega
 obtain ⟨j,hj⟩:∃ j,b=64+j:=⟨b - 64,by omega⟩
 obtain ⟨i,hi⟩:∃ i,64=i+j:=⟨64 - j,by omega⟩
 have ei:128 - b=i:=by omega
 have c0:U * 2 ^ i<2 ^ 128:=by
  have:=Nat.mul_lt_mul_of_pos_right b1 (Nat.two_pow_pos i)
  rw [<- Nat.pow_add,show b+i=128 from by omega] at this
  exact this
 have c1:U * 2 ^ i / 18446744073709551616=U / 2 ^ j:=by
  rw [B,show (2:Nat) ^ 64=2 ^ i * 2 ^ j from by rw [<- Nat.pow_add,<- hi],Nat.mul_comm U,Nat.mul_div_mul_left _ _ (Nat.two_pow_pos i)]
 have c2:U * 2 ^ i % 18446744073709551616=2 ^ i * (U % 2 ^ j):=by
  rw [B,show (2:Nat) ^ 64=2 ^ i * 2 ^ j from by rw [<- Nat.pow_add,<- hi],Nat.mul_comm U,Nat.mul_mod_mul_left]
 have c3:X / 2 ^ b=U / 2 ^ j:=by rw [hj,Nat.pow_add,<- Nat.div_div_eq_div_mul,<- B,<- hU]
 have c4:X % 2 ^ b=X % 18446744073709551616+18446744073709551616 * (U % 2 ^ j):=by rw [hj,Nat.pow_add,Nat.mod_mul,<- B,<- hU]
 refine ⟨U,b,U / 2 ^ j,X % 2 ^ b,hU,u0,u2,hb,b3,b4,by rw [ei];exact c0,by rw [ei];exact c1.symm,?_,?_,by rw [<- c3,Nat.div_add_mod'],Nat.mod_lt _ (Nat.two_pow_pos b),?_⟩
 . rw [Nat.le_div_iff_mul_le (Nat.two_pow_pos j),<- Nat.pow_add,show 63+j=b - 1 from by omega]
   exact b2
 . rw [Nat.div_lt_iff_lt_mul (Nat.two_pow_pos j),<- Nat.pow_add,<- hj]
   exact b1
 . rw [ei,c2,c4,Nat.mul_eq_zero]
   have:=Nat.two_pow_pos i
   omega
end Go.Proofs.YtejgpbhionadbaaGreatDoor
namespace Go.Proofs.YtejgpbhionadbaaGreatDoor
open Go.RowKit
structure TwB (W:World) (K:Nat) (a b:Value):Prop where
 lt:K<W.heap.size
 a0:W.cell? ⟨K,0,none⟩=some a
 a1:W.cell? ⟨K,1,none⟩=some b
 f0:W.frozen? ⟨K,0,none⟩=false
 f1:W.frozen? ⟨K,1,none⟩=false
theorem TwB.step {W W':World}{K:Nat}{a b:Value}(h:TwB W K a b) (hb:Bl W W'):TwB W' K a b:=by
 have k:=fun o=>hb.cell (p:=⟨K,o,none⟩) h.lt
 have j:=fun o=>hb.frozen (p:=⟨K,o,none⟩) h.lt
 exact ⟨Nat.lt_of_lt_of_le h.lt hb.size,(k 0).trans h.a0,(k 1).trans h.a1,(j 0).trans h.f0,(j 1).trans h.f1⟩
theorem TwB.new (W:World) (a b:Value) (T:TypeId):TwB (W.alloc (.cells #[a,b] T)) W.heap.size a b :=
 ⟨by simp,by simp,by simp,World.frozen?_alloc_new _ _ _ _,World.frozen?_alloc_new _ _ _ _⟩
theorem TwB.far {W:World}{K:Nat}{a b:Value}(h:TwB W K a b) (p:Addr) (v:Value) (n:K ≠ p.block):TwB (W.setCell p v) K a b:=by
 have e:(W.setCell p v).heap[K]?=W.heap[K]?:=Below.heap_setCell W p v K n
 have k:=fun o=>World.cell?_of_block (w:=W) (w':=W.setCell p v) (a:=⟨K,o,none⟩) e
 have j:=fun o=>World.frozen?_of_block (w:=W) (w':=W.setCell p v) (a:=⟨K,o,none⟩) e
 have z:K<(W.setCell p v).heap.size:=by simpa using h.lt
 exact ⟨z,(k 0).trans h.a0,(k 1).trans h.a1,(j 0).trans h.f0,(j 1).trans h.f1⟩
theorem wD {w:World}{ao:Option Addr}{n c s q:Nat}(hq:s / 64=q) (hqn:n<=q) (hs:s<9223372036854775808) :
 Cs 231 #[.slice ao n c,vI (s:Int)] w (.tuple #[.slice none 0 0,.bool (decide (0<n))]):=by
 have e1:(s:Int) / 64=(q:Int):=by omega
 have e2:(n:Int)<=(q:Int):=by omega
 have hq2:q<9223372036854775808:=by omega
 have e3:decide ((0:Int)<(n:Int))=decide (0<n):=by
  by_cases z:0<n
  . rw [decide_eq_true z,decide_eq_true (by omega)]
  . rw [decide_eq_false z,decide_eq_false (by omega)]
 rw [<- e3]
 clear e3 hqn hq
 go_enter Tryz.func231,Tryz.ntmps231
 go_wp2
 refine bodyPost_ret (v:=.tuple #[.slice none 0 0,.bool (decide ((0:Int)<(n:Int)))]) (by simp [results,Tryz.results231,go_sem]) rfl ⟨rfl,rfl⟩
theorem aLC {w:World}(hT:Tab w) {va:Value}{X:Nat}(ha:NatV w va X) (s:Nat) (hs:s<9223372036854775808) :
 Calls Tryz.prog 192 #[va,vI (s:Int)] w fun e w'=>∃ v,e=.returned (.tuple #[v,.bool (decide (X % 2 ^ s ≠ 0)),.nilIface])/\NatV w' v (X / 2 ^ s)/\Bl w w':=by
 obtain ⟨ao,n,c,b,o,f,rfl,S,t,rfl,hn⟩:=ha
 have h1:=bV S
 rw [cS hn t] at h1
 unfold aZ at h1
 have cs:(0:Int)<=(s:Int):=by omega
 have HS:Hid (Sl w ao n c b o f):=S
 have HV:Hid (V f n<B ^ n):=V_lt S.ws n
 have HT:Hid (Top f n):=t
 by_cases hqn:n<=s / 64
 . have lt:V f n<2 ^ s:=by
    refine Nat.lt_of_lt_of_le HV.out ?_
    rw [cM]
    exact Nat.pow_le_pow_right (by omega) (by omega)
   have eq:V f n / 2 ^ s=0:=Nat.div_eq_of_lt lt
   have er:decide (V f n % 2 ^ s ≠ 0)=decide (0<n):=by
    rw [Nat.mod_eq_of_lt lt]
    by_cases z:0<n
    . have q:=Top_ge t z
      have:=Bp_pos (n - 1)
      rw [decide_eq_true z,decide_eq_true (by omega)]
    . have:n=0:=by omega
      subst this
      rfl
   rw [eq,er]
   have TN:Cs 227 #[.slice none 0 0] w (.slice none (tl (fun _=>0) 0) (tl (fun _=>0) 0)) :=
    trim_any (n:=0) (c:=0) (b:=0) (o:=0) (f:=fun _=>0) ⟨Nat.le_refl _,Nat.zero_le _,fun h=>absurd h (by omega),fun h=>absurd h (by omega),fun i h=>absurd h (by omega),fun _=>B_pos⟩
   obtain ⟨Z,hZ⟩:∃ Z,Z=decide (0<n):=⟨_,rfl⟩
   rw [<- hZ]
   have HZ:Hid (decide (0<n)=Z):=hZ.symm
   clear TN lt eq er S t hZ
   go_enter Tryz.func192,Tryz.ntmps192
   go_wp2_with fail
   refine h1.mono ?_
   rintro e wa ⟨rfl,hba⟩
   have SD:=wD (w:=wa) (ao:=ao) (c:=c) (s:=s) (n:=n) rfl hqn hs
   rw [HZ.out] at SD
   go_wp2_with fail
   refine SD.mono ?_
   rintro e wb ⟨rfl,rfl⟩
   have TN:Cs 227 #[.slice none 0 0] wb (.slice none (tl (fun _=>0) 0) (tl (fun _=>0) 0)) :=
    trim_any (n:=0) (c:=0) (b:=0) (o:=0) (f:=fun _=>0) ⟨Nat.le_refl _,Nat.zero_le _,fun h=>absurd h (by omega),fun h=>absurd h (by omega),fun i h=>absurd h (by omega),fun _=>B_pos⟩
   go_wp2_with fail
   refine TN.mono ?_
   rintro e wc ⟨rfl,rfl⟩
   go_wp2
   refine bodyPost_ret (v:=.tuple #[.slice none 0 0,.bool Z,.nilIface]) (by simp [results,Tryz.results192,go_sem,tl]) rfl ⟨_,rfl,natv_nil _,hba⟩
 . have hv0:V f n ≠ 0:=by
    have q:=Top_ge t (by omega)
    have:=Bp_pos (n - 1)
    omega
   obtain ⟨q,p,hsq,hp⟩:∃ q p,s=64 * q+p/\p<64:=⟨s / 64,s % 64,by omega,by omega⟩
   have hqn2:q<n:=by omega
   have HQ:Hid (s=64 * q+p):=hsq
   have H0:Hid (V f n ≠ 0):=hv0
   have HL:Hid (V f n / 2 ^ s<B ^ 128):=Nat.lt_of_le_of_lt (Nat.div_le_self _ _) (Nat.lt_of_lt_of_le HV.out (Nat.pow_le_pow_right B_pos hn))
   clear hv0 hsq S t hqn
   obtain ⟨Z,hZ⟩:∃ Z,Z=decide (V f n % 2 ^ s ≠ 0):=⟨_,rfl⟩
   rw [<- hZ]
   have HZ:Hid (decide (V f n % 2 ^ s ≠ 0)=Z):=hZ.symm
   clear hZ
   go_enter Tryz.func192,Tryz.ntmps192
   go_wp2_with fail
   refine h1.mono ?_
   rintro e wa ⟨rfl,hba⟩
   have SD:=fV (hT.next hba) (HS.out.below hba) (by omega) s q p HQ.out hp hqn2 H0.out
   rw [HZ.out] at SD
   clear h1
   go_wp2_with fail
   refine SD.mono ?_
   rintro e wb ⟨rfl,hbb,F,R,hv⟩
   obtain ⟨nv,hl⟩:=bG R (by unfold maxLen;omega) hv HL.out
   have BB:Bl w wb:=hba.trans (hbb.mono hba.size)
   have TT:=trim_any (aG R (by unfold maxLen;omega))
   go_wp2_with fail
   refine TT.mono ?_
   rintro e w4 ⟨rfl,rfl⟩
   go_wp2
   refine bodyPost_ret (v:=.tuple #[.slice (some ⟨wa.heap.size,0,none⟩) (tl F (n - q)) (tl F (n - q)),.bool Z,.nilIface]) (by simp [results,Tryz.results192,go_sem]) rfl ⟨_,rfl,nv,BB⟩
def ldz (h l:Int):Int:=if h=0 then 128 - aM l else 64 - aM h
theorem nM (h l:Int) (h1:aD h) (h2:aD l) (w:World) :
 Cb 193 #[.agg #[vU h,vU l]] w (vI (ldz h l)):=by
 have b1:=jJ l h2.1 h2.2
 by_cases c:h=0
 . have c':(h == 0)=true:=by simpa using c
   have hL:ldz h l=64+(64 - aM l):=by unfold ldz;rw [if_pos c];omega
   clear c
   go_enter Tryz.func193,Tryz.ntmps193
   go_wp2_with (go_at_call 232;refine (gC l h2 _).mono ?_;rintro e w' ⟨rfl,rfl⟩)
   go_ret
   exact ⟨by rw [hL];rfl,bz _ _⟩
 . have c':(h == 0)=false:=by simpa using c
   have hL:ldz h l=64 - aM h:=by unfold ldz;rw [if_neg c]
   go_enter Tryz.func193,Tryz.ntmps193
   go_wp2_with (go_at_call 232;refine (gC h h1 _).mono ?_;rintro e w' ⟨rfl,rfl⟩)
   go_ret
   exact ⟨by rw [hL];rfl,bz _ _⟩
theorem wL {x x' y y':Int}(hx:x=x') (hy:y=y'):Ending.returned (.agg #[vU x,vU y])=.returned (.agg #[vU x',vU y']):=by rw [hx,hy]
theorem nO (h l n:Int) (h1:aD h) (h2:aD l) (w:World) :
 Cb 194 #[.agg #[vU h,vU l],vI n] w (.agg #[vU (hiW (shl (val h l) n)),vU (loW (shl (val h l) n))]):=by
 have l0:=h1.1
 have l1:=h2.1
 rcases (by omega:n<=0 \/ 128<=n \/ (64<=n/\n<128) \/ (0<n/\n<64)) with c | c | ⟨c,d⟩ | ⟨c,d⟩
 . go_enter Tryz.func194,Tryz.ntmps194
   go_wp2
   have hv:=aLP h1 h2
   have e:shl (val h l) n=val h l:=by unfold shl;rw [show n.toNat=0 by omega,Nat.pow_zero,Nat.mul_one,Nat.mod_eq_of_lt hv]
   refine bodyPost_ret (v:=.agg #[vU h,vU l]) (by simp [results,Tryz.results194,go_sem]) rfl ⟨wL (by rw [e,aIV h1 h2]) (by rw [e,aI1 h1 h2]),(bz _ _).alloc (by simp) _⟩
 . go_enter Tryz.func194,Tryz.ntmps194
   go_wp2
   have e:shl (val h l) n=0:=aHA _ _ (by omega)
   refine bodyPost_ret (v:=.agg #[vU 0,vU 0]) (by simp [results,Tryz.results194,go_sem]) rfl ⟨wL (by rw [e,aGG]) (by rw [e,aGO]),(bz _ _).alloc (by simp) _⟩
 . go_enter Tryz.func194,Tryz.ntmps194
   go_wp2
   obtain ⟨e1,e2⟩:=aA6 h1 h2 n.toNat (by omega)
   rw [show n.toNat - 64=(n - 64).toNat by omega] at e1
   refine bodyPost_ret (v:=.agg #[vU (IntKind.u64.wrap (l * 2 ^ (n - 64).toNat)),vU 0]) (by simp [results,Tryz.results194,go_sem]) rfl ⟨wL e1 e2,(bz _ _).alloc (by simp) _⟩
 . go_enter Tryz.func194,Tryz.ntmps194
   go_wp2
   go_region
   all_goals
    go_wp2
    obtain ⟨e1,e2⟩:=aFq h1 h2 n.toNat (by omega)
    rw [show 64 - n.toNat=(64 - n).toNat by omega] at e1
    refine bodyPost_ret (v:=.agg #[vU (bits BinOp.or IntKind.u64 (IntKind.u64.wrap (h * 2 ^ n.toNat)) (l / 2 ^ (64 - n).toNat)),vU (IntKind.u64.wrap (l * 2 ^ n.toNat))]) (by simp [results,Tryz.results194,go_sem]) rfl ⟨wL e1 e2,((bz _ _).alloc (by simp) _).drew⟩
theorem pQ:Tryz.prog.underlying 23=some (.slice 31):=by kernel_rfl
theorem aG2 {w:World}{g:Nat}(hg:w.heap[g]?=some (.cells #[vU 0,vU 0] 328 (0,0))) {ao:Option Addr}{n c b o:Nat}{f:Nat -> Nat}(S:Sl w ao n c b o f) (hn:n<=2) :
 ∃ w2,(Builtin.copy_ #[23,203] 3 #[.slice (some ⟨g,0,none⟩) 2 2,.slice ao n c]).run Tryz.prog w=.ok (vI (n:Int)) w2/\w2.cell? ⟨g,0,none⟩=some (vU (if 0<n then (f 0:Int) else 0))/\w2.cell? ⟨g,1,none⟩=some (vU (if 1<n then (f 1:Int) else 0))/\w.grownBy w2 (some g):=by
 have hgl:g<w.heap.size:=(Array.getElem?_eq_some_iff.1 hg).1
 have gr:∀ r:Array Value,w.grownBy (w.setRow g r) (some g):=fun r=>⟨rfl,rfl,rfl,by rw [oU];exact Nat.le_refl _,fun k hk hne=>lP (fun q=>hne (by rw [q]))⟩
 rcases (by omega:n=0 \/ n=1 \/ n=2) with rfl | rfl | rfl
 . refine ⟨w,run_copy_none w _ _ 3 31 _ _ _ _ _ _ pQ iL (by simp),?_,?_,World.grownBy.refl _ _⟩
   . simp [World.cell?,hg]
   . simp [World.cell?,hg]
 . obtain rfl:=S.addr (by omega)
   have e:=run_copy_row (P:=Tryz.prog) w 23 203 3 31 g 0 2 2 ⟨b,o,none⟩ 1 c _ 328 [vU (f 0:Int)] pQ iL hg rfl
    (fun j v hv=>by
     rcases j with _ | j
     . have:=Option.some.inj hv
       rw [<- this]
       simpa [Addr.add] using S.cell 0 (by omega)
     . cases hv) (by simp) (by simp [Value.oneCell'])
   refine ⟨_,e,?_,?_,gr _⟩
   . simp [World.cell?,setRow_heap w g _ _ 328 (0,0) hg]
   . simp [World.cell?,setRow_heap w g _ _ 328 (0,0) hg]
 . obtain rfl:=S.addr (by omega)
   have e:=run_copy_row (P:=Tryz.prog) w 23 203 3 31 g 0 2 2 ⟨b,o,none⟩ 2 c _ 328 [vU (f 0:Int),vU (f 1:Int)] pQ iL hg rfl
    (fun j v hv=>by
     rcases j with _ | _ | j
     . have:=Option.some.inj hv
       rw [<- this]
       simpa [Addr.add] using S.cell 0 (by omega)
     . have:=Option.some.inj hv
       rw [<- this]
       simpa [Addr.add] using S.cell 1 (by omega)
     . cases hv) (by simp) (by simp [Value.oneCell'])
   refine ⟨_,e,?_,?_,gr _⟩
   . simp [World.cell?,setRow_heap w g _ _ 328 (0,0) hg]
   . simp [World.cell?,setRow_heap w g _ _ 328 (0,0) hg]
theorem aFC {f:Nat -> Nat}(hf:Ws f) {n:Nat}(t:Top f n) (h:V f n<2 ^ 128):n<=2/\(if 1<n then (f 1:Int) else 0)=hiW (V f n)/\(if 0<n then (f 0:Int) else 0)=loW (V f n):=by
 have h2:V f n<B ^ 2:=by rw [show B ^ 2=2 ^ 128 from by decide];exact h
 have hn:n<=2:=len_le t h2
 have f0:=hf 0
 have f1:=hf 1
 refine ⟨hn,?_⟩
 unfold hiW loW
 unfold B at f0 f1
 rcases (by omega:n=0 \/ n=1 \/ n=2) with rfl | rfl | rfl
 . rw [V_zero];simp
 . have e:V f 1=f 0:=by rw [V_succ,V_zero,Nat.pow_zero];omega
   rw [e]
   constructor
   . rw [if_neg (by omega)];omega
   . rw [if_pos (by omega)];omega
 . have e:V f 2=f 0+f 1 * 18446744073709551616:=by rw [V_succ,V_succ,V_zero,Nat.pow_zero,Nat.pow_one];unfold B;omega
   rw [e]
   constructor
   . rw [if_pos (by omega)];omega
   . rw [if_pos (by omega)];omega
theorem uL {w:World}{va:Value}{X:Nat}(ha:NatV w va X) (hX:X<2 ^ 128) :
 Cb 191 #[va] w (.agg #[vU (hiW X),vU (loW X)]):=by
 obtain ⟨ao,n,c,b,o,f,rfl,S,t,rfl,hn⟩:=ha
 obtain ⟨hn2,e1,e0⟩:=aFC S.ws t hX
 obtain ⟨W,hW⟩:∃ W,(w.alloc (.cells #[vU 0,vU 0] 191)).alloc (.cells #[vU 0,vU 0] 328)=W:=⟨_,rfl⟩
 have bW:Bl w W:=by rw [<- hW];exact (bz _ _).alloc (by simp) _
 have sW:W.heap.size=w.heap.size+2:=by rw [<- hW];simp
 have hg:W.heap[w.heap.size+1]?=some (.cells #[vU 0,vU 0] 328 (0,0)):=by
  rw [<- hW]
  have q:=heap_alloc_new (w.alloc (.cells #[vU 0,vU 0] 191)) (.cells #[vU 0,vU 0] 328)
  simpa using q
 have z0:W.cell? ⟨w.heap.size,0,none⟩=some (vU 0):=by rw [<- hW];simp
 have z1:W.cell? ⟨w.heap.size,1,none⟩=some (vU 0):=by rw [<- hW];simp
 have zf:∀ o,W.frozen? ⟨w.heap.size,o,none⟩=false:=fun o=>by rw [<- hW,frozen?_alloc_cells];exact World.frozen?_alloc_new _ _ _ _
 obtain ⟨w2,hcp,c0,c1,gr⟩:=aG2 hg (S.below bW) hn2
 rw [e0] at c0
 rw [e1] at c1
 have y0:w2.cell? ⟨w.heap.size,0,none⟩=some (vU 0):=(World.cell?_of_block (gr.block w.heap.size (by omega) (by simp))).trans z0
 have y1:w2.cell? ⟨w.heap.size,1,none⟩=some (vU 0):=(World.cell?_of_block (gr.block w.heap.size (by omega) (by simp))).trans z1
 have yf:∀ o,w2.frozen? ⟨w.heap.size,o,none⟩=false:=fun o=>(World.frozen?_of_block (gr.block w.heap.size (by omega) (by simp))).trans (zf o)
 have b2:Bl w w2:=bW.grown gr (by omega) (fun q hq=>by have:=Option.some.inj hq;omega)
 have HB:Hid (Bl w w2):=b2
 generalize hiW (V f n)=h at *
 generalize loW (V f n)=l at *
 clear hX t e0 e1 hn hn2 S gr bW b2 hg z0 z1 zf
 go_enter Tryz.func191,Tryz.ntmps191
 go_wp2
 refine bodyPost_ret (v:=.agg #[vU h,vU l]) (by simp [results,Tryz.results191,go_sem,y0,y1]) rfl ⟨rfl,(HB.out.setCell (Nat.le_refl _) _).setCell (Nat.le_refl _) _⟩
theorem aIG {n K:Nat}(h:3 * n<64 * K):5 ^ n<B ^ K:=by
 have a:5 ^ n<=8 ^ n:=Nat.pow_le_pow_left (by omega) n
 rw [show 8=2 ^ 3 from rfl,<- Nat.pow_mul] at a
 rw [cM]
 exact Nat.lt_of_le_of_lt a (Nat.pow_lt_pow_right (by omega) h)
theorem aBo {n:Nat}:bl (5 ^ n)<=3 * n+1:=by
 have a:5 ^ n<=8 ^ n:=Nat.pow_le_pow_left (by omega) n
 rw [show 8=2 ^ 3 from rfl,<- Nat.pow_mul] at a
 exact gA (Nat.lt_of_le_of_lt a (Nat.pow_lt_pow_right (by omega) (by omega)))
theorem aEY (n:Nat) (hn:n<=400) (w:World) :
 Calls Tryz.prog 187 #[vI (n:Int)] w fun e w'=>∃ v,e=.returned (.tuple #[v,vI (bl (5 ^ n):Int)])/\NatV w' v (5 ^ n)/\Bl w w':=by
 have P:=zW 5 n (by decide) (by omega) (aIG (by omega)) w
 obtain ⟨X,hX⟩:∃ X,X=5 ^ n:=⟨_,rfl⟩
 rw [<- hX] at P ⊢
 simp only [Int.cast_ofNat_Int] at P
 obtain ⟨L,hL⟩:∃ L,L=bl X:=⟨_,rfl⟩
 rw [<- hL]
 have HL:Hid (L=bl X):=hL
 clear hX hL
 go_enter Tryz.func187,Tryz.ntmps187
 go_wp2_with fail
 refine P.mono ?_
 rintro e w1 ⟨v,rfl,n1,b1⟩
 have N1:Hid (NatV w1 v X):=n1
 obtain ⟨ao,m,c,b,o,f,rfl,S,t,hv,hm⟩:=n1
 have BT:=tN S
 rw [cS hm t,mN,hv,<- HL.out] at BT
 unfold aZ at BT
 clear S t hv
 go_wp2_with fail
 refine BT.mono ?_
 rintro e w2 ⟨rfl,b2⟩
 go_wp2
 refine bodyPost_ret (v:=.tuple #[.slice ao m c,vI (L:Int)]) (by simp [results,Tryz.results187,go_sem]) rfl ⟨_,rfl,N1.out.below b2,b1.trans (b2.mono b1.size)⟩
theorem dB {v:Nat}(h:v<340282366920938463463374607431768211456):aD (hiW v):=by
 unfold aD hiW;omega
theorem dY (v:Nat):aD (loW v):=by unfold aD loW;omega
theorem aLO (v:Nat):val (hiW v) (loW v)=v:=by
 unfold val hiW loW;omega
theorem aBs {X:Nat}(h0:X ≠ 0) (h:X<2 ^ 128):ldz (hiW X) (loW X)=128 - (bl X:Int):=by
 rw [show 2 ^ 128=340282366920938463463374607431768211456 from rfl] at h
 unfold ldz
 by_cases c:hiW X=0
 . rw [if_pos c]
   unfold hiW at c
   have e:loW X=(X:Int):=by unfold loW;omega
   rw [e]
   obtain ⟨n,e1,e2,e3,e4⟩:=aW (X:Int) (by omega) (by omega)
   rw [aL] at e3 e4
   rw [e1,pV (L:=n) (by omega) (by omega)]
   omega
 . rw [if_neg c]
   have w:=dB h
   unfold aD at w
   obtain ⟨n,e1,e2,e3,e4⟩:=aW (hiW X) (by omega) w.2
   rw [aL] at e3 e4
   have a1:2 ^ (n+64)<=X:=by
    unfold hiW at e3
    rw [Nat.pow_add,show 2 ^ 64=18446744073709551616 from rfl]
    generalize 2 ^ n=t at *
    omega
   have a2:X<2 ^ (n+64+1):=by
    unfold hiW at e4
    rw [show n+64+1=n+1+64 from by omega,Nat.pow_add,show 2 ^ 64=18446744073709551616 from rfl]
    generalize 2 ^ (n+1)=t at *
    omega
   rw [e1,pV a1 a2]
   omega
theorem aKo {X D:Nat}(h0:X ≠ 0) (h:D<bl X):bl (X / 2 ^ D)=bl X - D:=by
 have a:=fN h0
 have b:=dH X
 have p:=Nat.two_pow_pos D
 have r:bl (X / 2 ^ D)=(bl X - 1 - D)+1:=by
  refine pV ?_ ?_
  . rw [Nat.le_div_iff_mul_le p,<- Nat.pow_add,show bl X - 1 - D+D=bl X - 1 from by omega]
    exact a
  . rw [Nat.div_lt_iff_lt_mul p,<- Nat.pow_add,show bl X - 1 - D+1+D=bl X from by omega]
    exact b
 omega
theorem aHQ {n ov top room:Nat}(ho:ov=bl (5 ^ n) - 128) (ht:top=5 ^ n / 2 ^ ov) (hr:room=128 - bl top) :
 top ≠ 0/\top<2 ^ 128/\bl top<=128/\top * 2 ^ room<2 ^ 128/\Pw (n:Int) (top * 2 ^ room) ((n:Int)+ov - room)/\(5 ^ n % 2 ^ ov=0 ↔ ((0:Int)<=n/\(n:Int)<=55)):=by
 have x0:5 ^ n ≠ 0:=Nat.ne_of_gt (Nat.pow_pos (by omega))
 have bp:=jI x0
 have b1:=fN x0
 have b2:=dH (5 ^ n)
 have bt:bl top=bl (5 ^ n) - ov:=by rw [ht];exact aKo x0 (by omega)
 have t0:top ≠ 0:=by
  intro z
  rw [z,show bl 0=0 from rfl] at bt
  omega
 have tl:=dH top
 have tg:=fN t0
 have tb:bl top<=128:=by omega
 have m2:top * 2 ^ room<2 ^ 128:=by
  have:=Nat.mul_lt_mul_of_pos_right tl (Nat.two_pow_pos room)
  rw [<- Nat.pow_add,show bl top+room=128 from by omega] at this
  exact this
 have m1:2 ^ 127<=top * 2 ^ room:=by
  have:=Nat.mul_le_mul_right (2 ^ room) tg
  have tp:=jI t0
  rw [<- Nat.pow_add,show bl top - 1+room=127 from by omega] at this
  exact this
 refine ⟨t0,Nat.lt_of_lt_of_le tl (Nat.pow_le_pow_right (by omega) tb),tb,m2,?_⟩
 rcases Nat.eq_zero_or_pos ov with z | z
 . have e:top=5 ^ n:=by rw [ht,z,Nat.pow_zero,Nat.div_one]
   obtain ⟨p,x⟩:=zY (e:=(n:Int)) (s:=(room:Int)) (M:=top * 2 ^ room) (r:=0) m1 m2 (by rw [show (-(n:Int)).toNat=0 from by omega,show (-(room:Int)).toNat=0 from by omega];decide) (by
    rw [Int.toNat_natCast,Int.toNat_natCast,show (-(n:Int)).toNat=0 from by omega,show (-(room:Int)).toNat=0 from by omega,e]
    simp only [Nat.pow_zero,Nat.mul_one,Nat.add_zero])
   rw [show (n:Int)+ov - room=(n:Int) - room from by omega]
   refine ⟨p,?_⟩
   rw [z,Nat.pow_zero,Nat.mod_one,<- kR p,x]
 . have r0:room=0:=by omega
   have e:top * 2 ^ room=top:=by rw [r0,Nat.pow_zero,Nat.mul_one]
   rw [e] at m1 m2 ⊢
   have dm:=Nat.div_add_mod (5 ^ n) (2 ^ ov)
   obtain ⟨p,x⟩:=zY (e:=(n:Int)) (s:=-(ov:Int)) (M:=top) (r:=5 ^ n % 2 ^ ov) m1 m2 (by
    rw [show (-(n:Int)).toNat=0 from by omega,show (- -(ov:Int)).toNat=ov from by omega,Nat.pow_zero,Nat.one_mul];exact Nat.mod_lt _ (Nat.two_pow_pos ov)) (by
    rw [Int.toNat_natCast,show (-(n:Int)).toNat=0 from by omega,show (-(ov:Int)).toNat=0 from by omega,show (- -(ov:Int)).toNat=ov from by omega]
    simp only [Nat.pow_zero,Nat.one_mul,Nat.mul_one]
    rw [ht,Nat.mul_comm]
    exact dm.symm)
   rw [show (n:Int)+ov - room=(n:Int) - -(ov:Int) from by omega]
   exact ⟨p,by rw [<- kR p,x]⟩
theorem aAS {n sh:Nat}(n0:0<n) (hs:sh=127+bl (5 ^ n)):2 ^ sh / 5 ^ n<2 ^ 128/\Pw (-(n:Int)) (2 ^ sh / 5 ^ n) (-(n:Int) - sh):=by
 have p5:0<5 ^ n:=Nat.pow_pos (by omega)
 have x0:5 ^ n ≠ 0:=by omega
 have bp:=jI x0
 have b1:=fN x0
 have b2:=dH (5 ^ n)
 have ne:2 ^ (bl (5 ^ n) - 1) ≠ 5 ^ n:=by
  intro q
  have o:=pP (bl (5 ^ n) - 1)
  rw [q,show n=n - 1+1 from by omega,Nat.pow_succ] at o
  omega
 have m2:2 ^ sh / 5 ^ n<2 ^ 128:=by
  rw [Nat.div_lt_iff_lt_mul p5,hs,show 127+bl (5 ^ n)=128+(bl (5 ^ n) - 1) from by omega,Nat.pow_add]
  exact Nat.mul_lt_mul_of_pos_left (by omega) (by decide)
 have m1:2 ^ 127<=2 ^ sh / 5 ^ n:=by
  rw [Nat.le_div_iff_mul_le p5,hs,Nat.pow_add]
  exact Nat.mul_le_mul_left _ (Nat.le_of_lt b2)
 refine ⟨m2,(zY (e:=-(n:Int)) (s:=(sh:Int)) (r:=2 ^ sh % 5 ^ n) m1 m2 ?_ ?_).1⟩
 . rw [show (- -(n:Int)).toNat=n from by omega,show (-(sh:Int)).toNat=0 from by omega,Nat.pow_zero,Nat.mul_one]
   exact Nat.mod_lt _ p5
 . rw [show (- -(n:Int)).toNat=n from by omega,show (-(sh:Int)).toNat=0 from by omega,show (-(n:Int)).toNat=0 from by omega,Int.toNat_natCast]
   simp only [Nat.pow_zero,Nat.one_mul,Nat.mul_one]
   rw [Nat.mul_comm]
   exact (Nat.div_add_mod _ _).symm
theorem aFo {M top room:Nat}(h:M=top * 2 ^ room) (hm:M<2 ^ 128) (r:Int) (hr:r=room):shl (val (hiW top) (loW top)) r=M:=by
 unfold shl
 rw [aLO,hr,Int.toNat_natCast,<- h]
 exact Nat.mod_eq_of_lt hm
end Go.Proofs.YtejgpbhionadbaaGreatDoor
