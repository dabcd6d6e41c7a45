/-
  Holds: SoP SoQ SoR.
-/
import Derived.Test.YtblkokjkmbpejaaGreatDoorRows
import Derived.Laws.Externs
import Derived.WalkKit
import Derived.WalkSpells
import Derived.WalkLawsBesides
import Derived.Lib.Mul64
import Derived.Stop.Asserts
import Derived.RowKitTokens
import Derived.Lib.Strings
import Derived.Lib.BufferWrite
import Derived.Deep.OwnRows
import Derived.Deep.RegionHeld3
import Derived.BigQuiet
import Derived.Lib.ConvBytes
import Derived.Laws.CopyOwn
import Derived.Lib.TrailingZeros
import Derived.Lib.ItoaNum
import Derived.Deep.LoopGhost
import Derived.Deep.AppendLies
import Derived.Deep.DeepCutAuto
import Derived.Test.YtblkokjkmbpejaaGreatDoorShelf
import Derived.Test.YtblkokjkmbpejaaGreatDoorKf30
import Derived.Test.YtblkokjkmbpejaaGreatDoorKf31
set_option maxRecDepth 100000
set_option maxHeartbeats 4000000
namespace Go.Proofs.YtblkokjkmbpejaaGreatDoor
open Go.RowKit
def kN (s:ByteArray):Nat -> Nat
 | 0=>0
 | n+1=>if dgt s n=57 then kN s n else n+1
theorem kH    (s : ByteArray) : ∀ n, kN s n ≤ n ∧ (∀ i, kN s n ≤ i → i < n → dgt s i = 57) ∧ (0 < kN s n → dgt s (kN s n - 1) ≠ 57)
  | 0 => ⟨Nat.le_refl _, fun i a b => by omega, fun h => absurd h (by show ¬ 0 < 0; omega)⟩
  | n + 1 => by
    obtain ⟨a, b, c⟩ := kH    s n
    unfold kN
    by_cases h : dgt s n = 57
    · rw [if_pos h]
      refine ⟨by omega, fun i x y => ?_, c⟩
      by_cases e : i = n
      · rw [e]; exact h
      · exact b i x (by omega)
    · rw [if_neg h]
      exact ⟨Nat.le_refl _, fun i x y => by omega, fun _ => h⟩
theorem lY {s:ByteArray}(hd:DG s) (hs:s.size<=800) {k:Nat}(k0:0<k) (ks:k<=s.size) (hp:DG (bF s)):upS (bF s) k=upS s k:=by
 obtain ⟨z,e⟩:=fM hs
 obtain ⟨a1,a2⟩:=dN hd k0 ks
 obtain ⟨b1,b2⟩:=dN hp (m:=k) k0 (by omega)
 refine gT (by rw [bM k0 ks,bM k0 (by omega)]) (fun i hi=>?_)
 rw [bM k0 (by omega)] at hi
 by_cases c:i=k - 1
 . rw [c,a2,b2,e]
 . rw [a1 i (by omega),b1 i (by omega),e]
theorem fL {s:ByteArray}(hd:DG s) (hs:s.size<=800):DG (bF s):=fun i hi=>by
 obtain ⟨z,e⟩:=fM hs
 rw [<- aA hi,e]
 exact aF hd i
theorem aDN {s:ByteArray}(hd:DG s) (hf:dgt s 0 ≠ 48) {k:Nat}(k0:0<k) (ks:k<=s.size) (k9:dgt s (k - 1) ≠ 57):NF (upS s k):=by
 have z:=bM (s:=s) k0 ks
 obtain ⟨a1,a2⟩:=dN hd k0 ks
 have dk:=aF hd (k - 1)
 refine ⟨by omega,fun i hi=>?_,?_,?_⟩
 . rw [<- aA hi]
   by_cases c:i=k - 1
   . rw [c,a2];omega
   . rw [a1 i (by omega)];exact aF hd i
 . by_cases c:0=k - 1
   . have e:=a2
     rw [<- c] at e dk
     rw [e]
     omega
   . rw [a1 0 (by omega)];exact hf
 . rw [z,a2];omega
def nS (s:ByteArray) (p:Int) (n:Nat):Dp:=nxD (bF s) p (kN s n)
theorem aEb {s:ByteArray}{p:Int}(g:VN s p false) {n:Nat}(hn:n<=800):VD (nS s p n).1 (nS s p n).2 false:=by
 obtain ⟨k1,k2,k3⟩:=kH s n
 have nf:=dF g
 have lo:=g.lo
 have hi:=g.hi
 obtain ⟨z,e⟩:=fM g.len
 unfold nS nxD
 by_cases c:kN s n=0
 . rw [if_pos c]
   by_cases q:p=1099511627776
   . rw [if_pos q];exact Or.inl ⟨rfl,rfl,rfl⟩
   . rw [if_neg q]
     exact (Or.inr ⟨by decide,by decide,nD,by decide,Or.inl (by decide),by omega,by omega⟩:VD ⟨#[49]⟩ (p+1) false)
 . rw [if_neg c]
   refine Or.inr (eB (aDN (fL g.dg g.len) (by rw [e];exact nf.first) (by omega) (by omega) (by rw [e];exact k3 (by omega))) ?_ lo hi)
   show (upS (bF s) (kN s n)).size<=800
   rw [bM (by omega) (by omega)]
   omega
theorem aCv {s:ByteArray}{p:Int}(g:VN s p false) {n:Nat}(hn:n<=800) (W:World) :
 Cb 55 #[dcV (bF s) p true,vI (n:Int)] W (.tuple #[dcV (nS s p n).1 (nS s p n).2 false,if kN s n=0/\p=1099511627776 then .iface 69 (vI 4) else .nilIface]):=by
 obtain ⟨k1,k2,k3⟩:=kH s n
 have nf:=dF g
 obtain ⟨z,e⟩:=fM g.len
 have dP:=fL g.dg g.len
 have vd:VD (bF s) p true:=Or.inr ⟨by omega,by omega,dP,by rw [<- aA (by omega),e];exact nf.first,Or.inr rfl,g.lo,g.hi⟩
 have mr:MR (bF s) p true (n:Int) ((bF s).size:Int):=⟨vd,by omega,by omega,fun _=>by omega⟩
 refine nP mr (by unfold onB;rfl) (fun W=>?_) W
 unfold nS nxD
 by_cases c:kN s n=0
 . have q:=gA (s:=bF s) (p:=p) (c:=true) (by omega) (n:=n) (by omega) (fun i hi=>by rw [e];exact k2 i (by omega) hi) g.lo g.hi W
   rw [if_pos c]
   by_cases h:p=1099511627776
   . rw [if_pos h] at q
     rw [if_pos h,if_pos ⟨c,h⟩]
     exact q
   . rw [if_neg h] at q
     rw [if_neg h,if_neg (fun y=>h y.2)]
     exact q
 . rw [if_neg c,if_neg (fun y=>c y.1)]
   exact gB dP (by omega) (by omega) k1 (by omega) (fun i a b=>by rw [e];exact k2 i a b) (by rw [e];exact k3 (by omega)) W
def gS (c:Bool) (s:ByteArray) (p:Int) (n:Nat):Dp:=if c=true/\s.size<=n then (s,p) else nS s p n
theorem yP {s:ByteArray}{p:Int}(g:VN s p false) {n:Nat}(hn:n<=800) (W:World) :
 Cb 55 #[dcV s p false,vI (n:Int)] W (.tuple #[dcV (gS true s p n).1 (gS true s p n).2 false,if ¬ s.size<=n/\kN s n=0/\p=1099511627776 then .iface 69 (vI 4) else .nilIface]):=by
 have mr:∀ known,MR s p false (n:Int) known:=fun known=>⟨Or.inr g,by omega,by omega,fun z=>by cases z⟩
 have hl:=g.len
 unfold gS
 by_cases c:s.size<=n
 . have on:onB s false (n:Int)=false:=by unfold onB;rw [Bool.false_or];exact decide_eq_false (by omega)
   rw [if_pos ⟨rfl,c⟩,if_neg (fun y=>y.1 c)]
   exact lN (mr _) on (fun W=>dD (Or.inr g:VD _ _ _) (n:=n) (by omega) c W) W
 . have on:onB s false (n:Int)=true:=by unfold onB;rw [Bool.false_or];exact decide_eq_true (by omega)
   rw [if_neg (fun y=>c y.2)]
   obtain ⟨k1,k2,k3⟩:=kH s n
   refine nP (mr _) on (fun W=>?_) W
   unfold nS nxD
   by_cases z:kN s n=0
   . have q:=gA (s:=s) (p:=p) (c:=false) (by omega) (n:=n) (by omega) (fun i hi=>k2 i (by omega) hi) g.lo g.hi W
     rw [if_pos z]
     by_cases h:p=1099511627776
     . rw [if_pos h] at q
       rw [if_pos h,if_pos ⟨c,z,h⟩]
       exact q
     . rw [if_neg h] at q
       rw [if_neg h,if_neg (fun y=>h y.2.2)]
       exact q
   . rw [if_neg z,if_neg (fun y=>z y.2.1)]
     show Calls _ _ _ _ fun e w'=>e=.returned (.tuple #[dcV (upS (bF s) (kN s n)) p false,.nilIface])/\_
     rw [lY g.dg hl (by omega) (by omega) (fL g.dg hl)]
     exact gB g.dg hl (by omega) k1 (by omega) k2 (k3 (by omega)) W
def fS (c:Bool) (s:ByteArray) (p:Int) (t:ByteArray) (q:Int) (n:Nat):Option Dp:=if hdB c s p t q (gS c s p n) then some (gS c s p n) else none
theorem aA9 (c:Bool) (s:ByteArray) (p:Int) (t:ByteArray) (q:Int) (n:Nat):[gS c s p n].find? (hdB c s p t q)=fS c s p t q n:=by
 unfold fS
 rw [List.find?_cons,List.find?_nil]
 cases hdB c s p t q (gS c s p n) <;> rfl
theorem aBa {s:ByteArray}{p:Int}(g:VN s p false) (c:Bool) {n:Nat}(hn:n<=800):VD (gS c s p n).1 (gS c s p n).2 false:=by
 unfold gS
 split
 . exact Or.inr g
 . exact aEb g hn
theorem aDA    {s t : ByteArray} {p q : Int} (g : VN s p false) (ht : VD t q false) (c : Bool) (w : World) :
    Calls Tryz.prog 33 #[.agg #[.string s, .int .i64 p, .bool false, .string t, .int .i64 q, .bool false, .bool c]] w fun x w' => x = .returned (fG   (aS     (fS c s p t q) 1 800)) ∧ Below w.heap.size w w' := by
  cases c with
  | true =>
    have r := aEh   (Or.inr g) ht (g := gS true s p) (fun n a b => aBa   g true b) (fun n a b W => yP        g b W) w
    rw [eC        , fH          800 1 (fun m _ _ => aA9   true s p t q m)] at r
    exact r
  | false =>
    have e : gS false s p = nS s p := by
      funext n
      unfold gS
      rw [if_neg (fun y => by cases y.1)]
    have r := aEg   (Or.inr g) ht (g := gS false s p) (fun n a b => aBa   g false b) (fun n a b W => by
      rw [e]
      exact aCv     g b W) w
    rw [eC        , fH          800 1 (fun m _ _ => aA9   false s p t q m)] at r
    exact r
theorem aDB    {s t : ByteArray} {p q : Int} (g : VN s p false) (ht : VD t q false) (lt : aE   s p t q < 0) (c : Bool) (w : World) :
    Calls Tryz.prog 16 #[dcV s p false, dcV t q false, .bool c] w fun x w' => x = .returned (match aS     (fS c s p t q) 1 800 with | some d => .tuple #[dcV d.1 d.2 false, .nilIface] | none => .tuple #[dcV ⟨#[]⟩ 0 false, .iface 69 (.int .i64 4)]) ∧ Below w.heap.size w w' := by
  have HC := fun W => mY     (Or.inr g : VD _ _ _) ht W
  have HL := fun W => aDA    g ht c W
  cases k : aS     (fS c s p t q) 1 800 with
  | some d =>
    rw [k] at HL
    exact aDC    g.pos (by omega) HC HL w
  | none =>
    rw [k] at HL
    exact aAQ      g.pos (by omega) HC HL w
theorem mI {c:Nat}(c1:49<=c) (c9:c<=57) (p:Int) (h0:-1000<=p) (h1:p<=1000) {j k:Nat}(hj:c - 48=j) (hk:(p+(R0:Int) - 1).toNat=k):Dx ⟨#[UInt8.ofNat c]⟩ p (j * 10 ^ k):=by
 have e:(UInt8.ofNat c).toNat=c:=by
  rw [UInt8.toNat_ofNat']
  omega
 have s1:(⟨#[UInt8.ofNat c]⟩:ByteArray).size=1:=rfl
 have d0:dgt ⟨#[UInt8.ofNat c]⟩ 0=c:=by
  rw [aA (by rw [s1];decide)]
  exact e
 have dg:DG ⟨#[UInt8.ofNat c]⟩:=fun i hi=>by
  rw [<- aA hi,show i=0 by rw [s1] at hi;omega,d0]
  omega
 refine ⟨Or.inr (eB ⟨by rw [s1];decide,dg,by rw [d0];omega,by show dgt _ 0 ≠ 48;rw [d0];omega⟩ (by rw [s1];decide) (by omega) (by omega)),?_,?_⟩
 . rw [s1];unfold R0;omega
 . rw [s1]
   show (10 * 0+(dgt ⟨#[UInt8.ofNat c]⟩ 0 - 48)) * _=_
   rw [d0,Nat.mul_zero,Nat.zero_add,hj]
   rw [<- hk]
   rfl
theorem jP {z:Int}{f T:Nat}{L:Int}{S I b:Nat}{u:ByteArray}{o:Int}{s:ByteArray}{p:Int}{t:ByteArray}{q:Int}{A:Nat}{d1 d2:Nat -> Dp}(h:Fl z f T L S I b u o s p t q A d1 d2) {B:Nat}(h1:10 ^ B<=vlF f L (mg S b)) (h2:vlF f L (mg S b)<10 ^ (B+1)):A=B+1:=by
 obtain ⟨_,a,b⟩:=h.g.some h.pos
 rw [h.hA] at a b
 rw [show ((A:Int) - 1).toNat=A - 1 by omega] at a
 rw [show ((A:Int)).toNat=A by omega] at b
 have x1:=(Nat.pow_lt_pow_iff_right (a:=10) (by decide)).1 (Nat.lt_of_le_of_lt h1 b)
 have x2:=(Nat.pow_lt_pow_iff_right (a:=10) (by decide)).1 (Nat.lt_of_le_of_lt a h2)
 omega
theorem aAR:Fn 64 52 2047 (-1074) 9223372036854775808 9218868437227405312 4591870180066957722:=⟨Or.inr ⟨rfl,rfl,rfl,rfl,rfl,rfl⟩,by decide,by decide +kernel⟩
theorem aAS:Fn 64 52 2047 (-1074) 9223372036854775808 9218868437227405312 1:=⟨Or.inr ⟨rfl,rfl,rfl,rfl,rfl,rfl⟩,by decide,by decide +kernel⟩
theorem aAT:Fn 32 23 255 (-149) 2147483648 2139095040 2139095039:=⟨Or.inl ⟨rfl,rfl,rfl,rfl,rfl,rfl⟩,by decide,by decide +kernel⟩
theorem aCp:10 ^ 1099<=vlF 52 (-1074) (mg 9223372036854775808 4591870180066957722)/\vlF 52 (-1074) (mg 9223372036854775808 4591870180066957722)<10 ^ (1099+1)/\cS (decide (4591870180066957722 % 2=0)) (loF 52 (-1074) (mg 9223372036854775808 4591870180066957722)) (hiF 52 (-1074) (mg 9223372036854775808 4591870180066957722)) (vlF 52 (-1074) (mg 9223372036854775808 4591870180066957722)) (10 ^ (1099+1 - 1))=some (1 * 10 ^ 1099):=by decide +kernel
theorem aCq:10 ^ 776<=vlF 52 (-1074) (mg 9223372036854775808 1)/\vlF 52 (-1074) (mg 9223372036854775808 1)<10 ^ (776+1)/\cS (decide (1 % 2=0)) (loF 52 (-1074) (mg 9223372036854775808 1)) (hiF 52 (-1074) (mg 9223372036854775808 1)) (vlF 52 (-1074) (mg 9223372036854775808 1)) (10 ^ (776+1 - 1))=some (5 * 10 ^ 776):=by decide +kernel
theorem aCr:10 ^ 1138<=vlF 23 (-149) (mg 2147483648 2139095039)/\vlF 23 (-149) (mg 2147483648 2139095039)<10 ^ (1138+1)/\cS (decide (2139095039 % 2=0)) (loF 23 (-149) (mg 2147483648 2139095039)) (hiF 23 (-149) (mg 2147483648 2139095039)) (vlF 23 (-149) (mg 2147483648 2139095039)) (10 ^ (1138+1 - 7))=none/\cS (decide (2139095039 % 2=0)) (loF 23 (-149) (mg 2147483648 2139095039)) (hiF 23 (-149) (mg 2147483648 2139095039)) (vlF 23 (-149) (mg 2147483648 2139095039)) (10 ^ (1138+1 - 8))=some (34028235 * 10 ^ 1131):=by decide +kernel
theorem zO:Dx ⟨#[51,52,48,50,56,50,51,53]⟩ 39 (34028235 * 10 ^ 1131):=by
 have s8:(⟨#[51,52,48,50,56,50,51,53]⟩:ByteArray).size=8:=rfl
 have dg:DG ⟨#[51,52,48,50,56,50,51,53]⟩:=fun i hi=>by
  rw [<- aA hi]
  rw [s8] at hi
  rcases (by omega:i=0 \/ i=1 \/ i=2 \/ i=3 \/ i=4 \/ i=5 \/ i=6 \/ i=7) with rfl | rfl | rfl | rfl | rfl | rfl | rfl | rfl <;> decide
 have v:pv ⟨#[51,52,48,50,56,50,51,53]⟩ 8=34028235:=by decide +kernel
 refine ⟨Or.inr (eB ⟨by rw [s8];decide,dg,by decide,by rw [s8];decide⟩ (by rw [s8];decide) (by omega) (by omega)),?_,?_⟩
 . rw [s8];unfold R0;omega
 . rw [s8,v,show (39+(R0:Int) - ((8:Nat):Int)).toNat=1131 from rfl]
theorem mE {f:Nat -> Option Dp}{d:Dp}(h:f 1=some d):aS f 1 17=some d:=by
 show aS f 1 (16+1)=some d
 unfold aS
 rw [h]
theorem aCm (w:World):Cb 8 #[vU 4591870180066957722,vI 64] w (.tuple #[.agg #[.string ⟨#[49]⟩,vI 0,.bool false],.nilIface]):=by
 obtain ⟨k1,k2,k3⟩:=aCp
 obtain ⟨u,o,s,p,t,q,A,d1,d2,h⟩:=mR aAR (by decide +kernel)
 have hA:=jP h k1 k2
 subst hA
 rcases h.pick (decide (4591870180066957722 % 2=0)) (n:=1) (by decide) (by decide) with ⟨_,b⟩ | ⟨d,Z,a,b,c,_⟩
 . rw [k3] at b;cases b
 . rw [k3] at b
   have bz:1 * 10 ^ 1099=Z:=Option.some.inj b
   have x:=mI (c:=49) (by decide) (by decide) 0 (by decide) (by decide) (j:=1) (k:=1099) rfl rfl
   rw [bz] at x
   obtain ⟨y1,y2⟩:=Dx.uniq c x
   have r:=h.digits (mE a) w
   rw [y1,y2] at r
   exact r
theorem aCn (w:World):Cb 8 #[vU 1,vI 64] w (.tuple #[.agg #[.string ⟨#[53]⟩,vI (-323),.bool false],.nilIface]):=by
 obtain ⟨k1,k2,k3⟩:=aCq
 obtain ⟨u,o,s,p,t,q,A,d1,d2,h⟩:=mR aAS (by decide +kernel)
 have hA:=jP h k1 k2
 subst hA
 rcases h.pick (decide (1 % 2=0)) (n:=1) (by decide) (by decide) with ⟨_,b⟩ | ⟨d,Z,a,b,c,_⟩
 . rw [k3] at b;cases b
 . rw [k3] at b
   have bz:5 * 10 ^ 776=Z:=Option.some.inj b
   have x:=mI (c:=53) (by decide) (by decide) (-323) (by decide) (by decide) (j:=5) (k:=776) rfl rfl
   rw [bz] at x
   obtain ⟨y1,y2⟩:=Dx.uniq c x
   have r:=h.digits (mE a) w
   rw [y1,y2] at r
   exact r
theorem aCo (w:World):Cb 8 #[vU 2139095039,vI 32] w (.tuple #[.agg #[.string ⟨#[51,52,48,50,56,50,51,53]⟩,vI 39,.bool false],.nilIface]):=by
 obtain ⟨k1,k2,k3,k4⟩:=aCr
 obtain ⟨u,o,s,p,t,q,A,d1,d2,h⟩:=mR aAT (by decide +kernel)
 have hA:=jP h k1 k2
 subst hA
 have n7:fD (decide (2139095039 % 2=0)) s p t q u d1 d2 7=none:=by
  rcases h.pick (decide (2139095039 % 2=0)) (n:=7) (by decide) (by decide) with ⟨a,_⟩ | ⟨d,Z,_,b,_⟩
  . exact a
  . rw [k3] at b;cases b
 obtain ⟨N,d,e1,e2,e3,e4,e5⟩:=h.first (decide (2139095039 % 2=0))
 rcases h.pick (decide (2139095039 % 2=0)) (n:=8) (by decide) (by decide) with ⟨_,b⟩ | ⟨d',Z,a,b,c,_⟩
 . rw [k4] at b;cases b
 . rw [k4] at b
   have bz:34028235 * 10 ^ 1131=Z:=Option.some.inj b
   have N8:N=8:=by
    rcases Nat.lt_trichotomy N 8 with q | q | q
    . have x:=h.mono (decide (2139095039 % 2=0)) e2 (show N<=7 by omega) (by decide) n7
      rw [x] at e4
      cases e4
    . exact q
    . have x:=e5 8 (by decide) q
      rw [x] at a
      cases a
   subst N8
   rw [a] at e4
   obtain rfl:=Option.some.inj e4
   have x:=zO
   rw [bz] at x
   obtain ⟨y1,y2⟩:=Dx.uniq c x
   have r:=h.digits e1 w
   rw [y1,y2] at r
   exact r
theorem yK {a b:UInt8}(a1:49<=a.toNat) (a9:a.toNat<=57) (b1:49<=b.toNat) (b9:b.toNat<=57):VN ⟨#[a,b]⟩ 1 false:=by
 have s2:(⟨#[a,b]⟩:ByteArray).size=2:=rfl
 have x0:dgt ⟨#[a,b]⟩ 0=a.toNat:=rfl
 have x1:dgt ⟨#[a,b]⟩ 1=b.toNat:=rfl
 refine eB ⟨by rw [s2];decide,fun i hi=>?_,by rw [x0];omega,by show dgt _ 1 ≠ 48;rw [x1];omega⟩ (by rw [s2];decide) (by omega) (by omega)
 rw [<- aA hi]
 rw [s2] at hi
 rcases (by omega:i=0 \/ i=1) with rfl | rfl
 . rw [x0];omega
 . rw [x1];omega
theorem aDF (w:World):Cb 16 #[.agg #[.string ⟨#[49,50]⟩,vI 1,.bool false],.agg #[.string ⟨#[49,57]⟩,vI 1,.bool false],.bool false] w (.tuple #[.agg #[.string ⟨#[49,51]⟩,vI 1,.bool false],.nilIface]):=by
 have g:=yK (a:=49) (b:=50) (by decide) (by decide) (by decide) (by decide)
 have g2:=yK (a:=49) (b:=57) (by decide) (by decide) (by decide) (by decide)
 have dg:=g.dg
 have k1:kN ⟨#[49,50]⟩ 1=1:=by decide
 have k2:kN ⟨#[49,50]⟩ 2=2:=by decide
 have s2:(⟨#[49,50]⟩:ByteArray).size=2:=rfl
 have e1:gS false ⟨#[49,50]⟩ 1 1=(⟨#[50]⟩,1):=by
  unfold gS nS nxD
  rw [if_neg (fun y=>by cases y.1),k1,if_neg (by decide),lY dg (by rw [s2];decide) (by decide) (by rw [s2];decide) (fL dg (by rw [s2];decide))]
  decide
 have e2:gS false ⟨#[49,50]⟩ 1 2=(⟨#[49,51]⟩,1):=by
  unfold gS nS nxD
  rw [if_neg (fun y=>by cases y.1),k2,if_neg (by decide),lY dg (by rw [s2];decide) (by decide) (by rw [s2];decide) (fL dg (by rw [s2];decide))]
  decide
 have h1:fS false ⟨#[49,50]⟩ 1 ⟨#[49,57]⟩ 1 1=none:=by
  unfold fS
  rw [e1]
  decide
 have h2:fS false ⟨#[49,50]⟩ 1 ⟨#[49,57]⟩ 1 2=some (⟨#[49,51]⟩,1):=by
  unfold fS
  rw [e2]
  decide
 have f:aS (fS false ⟨#[49,50]⟩ 1 ⟨#[49,57]⟩ 1) 1 800=some (⟨#[49,51]⟩,1):=by
  show aS _ 1 (798+1+1)=_
  unfold aS
  rw [h1]
  show aS _ 2 (798+1)=_
  unfold aS
  rw [h2]
 have r:=aDB g (Or.inr g2) (show aE ⟨#[49,50]⟩ 1 ⟨#[49,57]⟩ 1<0 by decide) false w
 rw [f] at r
 exact r
theorem bO  (w:World) :
 Cb 13 #[] w (.bool true):=by
 have F0:Hid (Bl w w):=Below.refl _ _
 go_enter Tryz.func13,Tryz.ntmps13
 go_wp2_with fail
 all_goals first | (exfalso;omega) | skip
 refine (aCm _).mono ?_
 rintro o1 w1 ⟨rfl,bb⟩
 have F1:Hid (Bl w w1):=(F0.out).trans (bb.mono (F0.out).size)
 clear F0
 clear bb
 have le0:=(F1.out).size
 have F2:Hid (Bk (w1.alloc (.cells #[.string ⟨#[49]⟩,vI 0,.bool false] 24)) (w1.heap.size) [.string ⟨#[49]⟩,vI 0,.bool false]/\Bl w (w1.alloc (.cells #[.string ⟨#[49]⟩,vI 0,.bool false] 24))):=⟨Bk.new3 w1 (.string ⟨#[49]⟩) (vI 0) (.bool false) 24,(F1.out).alloc ((F1.out).size) _⟩
 clear F1
 go_upto_region 2 with fail
 generalize (w1.alloc (.cells #[.string ⟨#[49]⟩,vI 0,.bool false] 24))=w2 at *
 go_wp2_with fail
 all_goals first | (exfalso;omega) | skip
 refine (aCn _).mono ?_
 rintro o3 w3 ⟨rfl,bb⟩
 have F3:Hid (Bk w3 (w1.heap.size) [.string ⟨#[49]⟩,vI 0,.bool false]/\Bl w w3):=⟨(F2.out.1).step bb,(F2.out.2).trans (bb.mono (F2.out.2).size)⟩
 clear F2
 clear bb
 have lt0_1:=(F3.out.1).lt
 have le1:=(F3.out.2).size
 have F4:Hid (Bk (w3.alloc (.cells #[.string ⟨#[53]⟩,vI (-323),.bool false] 24)) (w1.heap.size) [.string ⟨#[49]⟩,vI 0,.bool false]/\Bk (w3.alloc (.cells #[.string ⟨#[53]⟩,vI (-323),.bool false] 24)) (w3.heap.size) [.string ⟨#[53]⟩,vI (-323),.bool false]/\Bl w (w3.alloc (.cells #[.string ⟨#[53]⟩,vI (-323),.bool false] 24))):=⟨(F3.out.1).step (bz _ _),Bk.new3 w3 (.string ⟨#[53]⟩) (vI (-323)) (.bool false) 24,(F3.out.2).alloc ((F3.out.2).size) _⟩
 clear F3
 go_upto_region 3 with fail
 generalize (w3.alloc (.cells #[.string ⟨#[53]⟩,vI (-323),.bool false] 24))=w4 at *
 go_wp2_with fail
 all_goals first | (exfalso;omega) | skip
 refine (aCo _).mono ?_
 rintro o5 w5 ⟨rfl,bb⟩
 have F5:Hid (Bk w5 (w1.heap.size) [.string ⟨#[49]⟩,vI 0,.bool false]/\Bk w5 (w3.heap.size) [.string ⟨#[53]⟩,vI (-323),.bool false]/\Bl w w5):=⟨(F4.out.1).step bb,(F4.out.2.1).step bb,(F4.out.2.2).trans (bb.mono (F4.out.2.2).size)⟩
 clear F4
 clear bb
 have lt0_2:=(F5.out.1).lt
 have lt1_2:=(F5.out.2.1).lt
 have le2:=(F5.out.2.2).size
 have F6:Hid (Bk (w5.alloc (.cells #[.string ⟨#[51,52,48,50,56,50,51,53]⟩,vI 39,.bool false] 24)) (w1.heap.size) [.string ⟨#[49]⟩,vI 0,.bool false]/\Bk (w5.alloc (.cells #[.string ⟨#[51,52,48,50,56,50,51,53]⟩,vI 39,.bool false] 24)) (w3.heap.size) [.string ⟨#[53]⟩,vI (-323),.bool false]/\Bk (w5.alloc (.cells #[.string ⟨#[51,52,48,50,56,50,51,53]⟩,vI 39,.bool false] 24)) (w5.heap.size) [.string ⟨#[51,52,48,50,56,50,51,53]⟩,vI 39,.bool false]/\Bl w (w5.alloc (.cells #[.string ⟨#[51,52,48,50,56,50,51,53]⟩,vI 39,.bool false] 24))):=⟨(F5.out.1).step (bz _ _),(F5.out.2.1).step (bz _ _),Bk.new3 w5 (.string ⟨#[51,52,48,50,56,50,51,53]⟩) (vI 39) (.bool false) 24,(F5.out.2.2).alloc ((F5.out.2.2).size) _⟩
 clear F5
 go_upto_region 4 with fail
 generalize (w5.alloc (.cells #[.string ⟨#[51,52,48,50,56,50,51,53]⟩,vI 39,.bool false] 24))=w6 at *
 go_wp2_with fail
 all_goals first | (exfalso;omega) | skip
 refine (aDF _).mono ?_
 rintro o7 w7 ⟨rfl,bb⟩
 have F7:Hid (Bk w7 (w1.heap.size) [.string ⟨#[49]⟩,vI 0,.bool false]/\Bk w7 (w3.heap.size) [.string ⟨#[53]⟩,vI (-323),.bool false]/\Bk w7 (w5.heap.size) [.string ⟨#[51,52,48,50,56,50,51,53]⟩,vI 39,.bool false]/\Bl w w7):=⟨(F6.out.1).step bb,(F6.out.2.1).step bb,(F6.out.2.2.1).step bb,(F6.out.2.2.2).trans (bb.mono (F6.out.2.2.2).size)⟩
 clear F6
 clear bb
 have lt0_3:=(F7.out.1).lt
 have lt1_3:=(F7.out.2.1).lt
 have lt2_3:=(F7.out.2.2.1).lt
 have le3:=(F7.out.2.2.2).size
 have F8:Hid (Bk (w7.alloc (.cells #[.string ⟨#[49,51]⟩,vI 1,.bool false] 24)) (w1.heap.size) [.string ⟨#[49]⟩,vI 0,.bool false]/\Bk (w7.alloc (.cells #[.string ⟨#[49,51]⟩,vI 1,.bool false] 24)) (w3.heap.size) [.string ⟨#[53]⟩,vI (-323),.bool false]/\Bk (w7.alloc (.cells #[.string ⟨#[49,51]⟩,vI 1,.bool false] 24)) (w5.heap.size) [.string ⟨#[51,52,48,50,56,50,51,53]⟩,vI 39,.bool false]/\Bk (w7.alloc (.cells #[.string ⟨#[49,51]⟩,vI 1,.bool false] 24)) (w7.heap.size) [.string ⟨#[49,51]⟩,vI 1,.bool false]/\Bl w (w7.alloc (.cells #[.string ⟨#[49,51]⟩,vI 1,.bool false] 24))):=⟨(F7.out.1).step (bz _ _),(F7.out.2.1).step (bz _ _),(F7.out.2.2.1).step (bz _ _),Bk.new3 w7 (.string ⟨#[49,51]⟩) (vI 1) (.bool false) 24,(F7.out.2.2.2).alloc ((F7.out.2.2.2).size) _⟩
 clear F7
 go_upto_region 5 with fail
 generalize (w7.alloc (.cells #[.string ⟨#[49,51]⟩,vI 1,.bool false] 24))=w8 at *
 have l1_0:=F8.out.1.lt
 have a1_0_0:=F8.out.1.cell 0 _ rfl
 have f1_0_0:=F8.out.1.fz 0
 have a1_0_1:=F8.out.1.cell 1 _ rfl
 have f1_0_1:=F8.out.1.fz 1
 have a1_0_2:=F8.out.1.cell 2 _ rfl
 have f1_0_2:=F8.out.1.fz 2
 have l1_1:=F8.out.2.1.lt
 have a1_1_0:=F8.out.2.1.cell 0 _ rfl
 have f1_1_0:=F8.out.2.1.fz 0
 have a1_1_1:=F8.out.2.1.cell 1 _ rfl
 have f1_1_1:=F8.out.2.1.fz 1
 have a1_1_2:=F8.out.2.1.cell 2 _ rfl
 have f1_1_2:=F8.out.2.1.fz 2
 have l1_2:=F8.out.2.2.1.lt
 have a1_2_0:=F8.out.2.2.1.cell 0 _ rfl
 have f1_2_0:=F8.out.2.2.1.fz 0
 have a1_2_1:=F8.out.2.2.1.cell 1 _ rfl
 have f1_2_1:=F8.out.2.2.1.fz 1
 have a1_2_2:=F8.out.2.2.1.cell 2 _ rfl
 have f1_2_2:=F8.out.2.2.1.fz 2
 have l1_3:=F8.out.2.2.2.1.lt
 have a1_3_0:=F8.out.2.2.2.1.cell 0 _ rfl
 have f1_3_0:=F8.out.2.2.2.1.fz 0
 have a1_3_1:=F8.out.2.2.2.1.cell 1 _ rfl
 have f1_3_1:=F8.out.2.2.2.1.fz 1
 have a1_3_2:=F8.out.2.2.2.1.cell 2 _ rfl
 have f1_3_2:=F8.out.2.2.2.1.fz 2
 have ne1_0_1:¬ w1.heap.size=w3.heap.size:=by omega
 have ne1_0_2:¬ w1.heap.size=w5.heap.size:=by omega
 have ne1_0_3:¬ w1.heap.size=w7.heap.size:=by omega
 have ne1_1_0:¬ w3.heap.size=w1.heap.size:=by omega
 have ne1_1_2:¬ w3.heap.size=w5.heap.size:=by omega
 have ne1_1_3:¬ w3.heap.size=w7.heap.size:=by omega
 have ne1_2_0:¬ w5.heap.size=w1.heap.size:=by omega
 have ne1_2_1:¬ w5.heap.size=w3.heap.size:=by omega
 have ne1_2_3:¬ w5.heap.size=w7.heap.size:=by omega
 have ne1_3_0:¬ w7.heap.size=w1.heap.size:=by omega
 have ne1_3_1:¬ w7.heap.size=w3.heap.size:=by omega
 have ne1_3_2:¬ w7.heap.size=w5.heap.size:=by omega
 go_wp2
 go_ret
 exact ⟨rfl,F8.out.2.2.2.2⟩
end Go.Proofs.YtblkokjkmbpejaaGreatDoor
