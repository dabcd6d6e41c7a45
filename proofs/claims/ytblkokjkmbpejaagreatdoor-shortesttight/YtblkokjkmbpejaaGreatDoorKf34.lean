/-
  Holds: IvO SoT SoW SoWa.
-/
import Derived.Test.YtblkokjkmbpejaaGreatDoorRows
import Derived.Laws.Externs
import Derived.WalkKit
import Derived.WalkSpells
import Derived.WalkLawsBesides
import Derived.Lib.Mul64
import Derived.Stop.Asserts
import Derived.RowKitTokens
import Derived.Lib.Strings
import Derived.Lib.BufferWrite
import Derived.Deep.OwnRows
import Derived.Deep.RegionHeld3
import Derived.BigQuiet
import Derived.Lib.ConvBytes
import Derived.Laws.CopyOwn
import Derived.Lib.TrailingZeros
import Derived.Lib.ItoaNum
import Derived.Deep.LoopGhost
import Derived.Deep.AppendLies
import Derived.Deep.DeepCutAuto
import Derived.Test.YtblkokjkmbpejaaGreatDoorKf30
import Derived.Test.YtblkokjkmbpejaaGreatDoorKf33
set_option maxRecDepth 100000
set_option maxHeartbeats 4000000
namespace Go.Proofs.YtblkokjkmbpejaaGreatDoor
open Go.RowKit
theorem aDl {b:Nat}{z:Int}(h:Sn z) (w:World):Cb 65 #[vU (b:Int),vI z] w (vI 5):=eW (fun W=>xI h _ W) w
theorem rH {z:Int}{f T:Nat}{L:Int}{S I b:Nat}(h:Sf z f T L S I) (hb:b<2 * S) (w:World) :
 Cb 65 #[vU (b:Int),vI z] w (vI 0):=by
 rcases h with ⟨rfl,rfl,rfl,rfl,rfl,rfl⟩ | ⟨rfl,rfl,rfl,rfl,rfl,rfl⟩
 . exact eW (fun W=>xG (by omega) W) w
 . exact eW (fun W=>xH _ W) w
theorem rM      {z : Int} {f T : Nat} {L : Int} {S I b : Nat} (h : Sf z f T L S I) (hb : b < 2 * S) (w : World) :
    Calls Tryz.prog 66 #[.int .u64 (b : Int), .int .i64 z] w fun e w' => e = .returned (.int .i64 (cl I (mg S b))) ∧ Below w.heap.size w w' := by
  rcases h with ⟨rfl, rfl, rfl, rfl, rfl, rfl⟩ | ⟨rfl, rfl, rfl, rfl, rfl, rfl⟩
  · exact eW   (fun W => aDv    (by omega) W) w
  · exact eW   (fun W => aDw    (by omega) W) w
theorem iZ {z:Int}{f T:Nat}{L:Int}{S I b:Nat}(h:Sf z f T L S I) (hb:b<2 * S) (w:World) :
 Cb 37 #[vU (b:Int),vI z] w (.tuple #[vU ((mt f (mg S b):Nat):Int),vI (xp f L (mg S b))]):=by
 rcases h with ⟨rfl,rfl,rfl,rfl,rfl,rfl⟩ | ⟨rfl,rfl,rfl,rfl,rfl,rfl⟩
 . exact eW (fun W=>xN (by omega) W) w
 . exact eW (fun W=>xO (by omega) W) w
theorem lV {z:Int}{f T:Nat}{L:Int}{S I b:Nat}(h:Sf z f T L S I) (hb:b<2 * S) (w:World) :
 Cb 21 #[vU (b:Int),vI z] w (vU ((mg S b:Nat):Int)):=by
 rcases h with ⟨rfl,rfl,rfl,rfl,rfl,rfl⟩ | ⟨rfl,rfl,rfl,rfl,rfl,rfl⟩
 . exact eW (fun W=>iX (by omega) W) w
 . exact eW (fun W=>iY (by omega) W) w
theorem aBp {b:Nat}{z n:Int}(h:Bad b z n) (w:World) :
 Cb 36 #[vU (b:Int),vI z] w (vI n):=by
 rcases h with ⟨h,rfl⟩ | ⟨rfl,h,rfl⟩ | ⟨f,T,L,S,I,h,hb,hi,rfl⟩
 . exact qI rfl (fun W=>aDl h W) w
 . exact qI rfl (fun W=>eW (fun W=>tV h W) W) w
 . have i1:=h.fs.2.2.2.2.2.1
   refine aBq ?_ (fun W=>rH h hb W) (fun W=>rM h hb W) w
   rcases cA I (mg S b) with q | q | q | q <;> omega
theorem gV {z:Int}{f T:Nat}{L:Int}{S I b:Nat}(h:Fn z f T L S I b) (w:World):Cb 36 #[vU (b:Int),vI z] w (vI 0):=by
 refine aCF ?_ (fun W=>rH h.sf h.lt W) (fun W=>rM h.sf h.lt W) w
 have:=h.fin
 rcases cA I (mg S b) with q | q | q | q <;> omega
theorem oP {z:Int}{f T:Nat}{L:Int}{S I b:Nat}(h:Fn z f T L S I b) {s:ByteArray}{p:Int}(D:Dx s p (vlF f L (mg S b))) (w:World) :
 Cb 18 #[vU (b:Int),vI z] w (.tuple #[dcV s p false,vI 0]):=by
 have fs:=h.sf.fs.1
 have x:=bR fs h.m
 have m:=dS fs (mg S b)
 refine aDr (by omega) (fun W=>gV h W) (fun W=>iZ h.sf h.lt W) (fun W v hv=>jU (by omega) (by omega) (by omega) ?_ D hv) w
 by_cases m0:mg S b=0
 . right
   rw [m0,(pF fs.one L).2.1]
   rcases fs with ⟨_,_,rfl⟩ | ⟨_,_,rfl⟩ <;> omega
 . exact Or.inl (fK m0)
theorem qW {z:Int}{f T:Nat}{L:Int}{S I b:Nat}(h:Fn z f T L S I b):decide (mg S b % 2=0)=decide (b % 2=0):=by
 have e:=h.sf.fs.2.2.2.2.1
 obtain ⟨k,rfl⟩:∃ k,S=2 * k:=⟨S / 2,by omega⟩
 unfold mg
 rw [Nat.mod_mul_right_mod]
theorem xE {z:Int}{f T:Nat}{L:Int}{S I b:Nat}(h:Fn z f T L S I b) {s t:ByteArray}{p q:Int}(D:Dx s p (loF f L (mg S b))) (E:Dx t q (hiF f L (mg S b))) (w:World) :
 Cb 47 #[vU (b:Int),vI z] w (.tuple #[dcV s p false,dcV t q false,.bool (decide (b % 2=0)),vI 0]):=by
 have fs:=h.sf.fs.1
 have x:=bR fs h.m
 have m:=dS fs (mg S b)
 have HD:∀ W v,Big.D.NatV W v (2 * mt f (mg S b)+1) -> Cb 38 #[v,vI (xp f L (mg S b) - 1)] W (dcV t q false) :=
  fun W v hv=>jU (by omega) (by omega) (by omega) (by omega) E hv
 have MG:=fun W=>lV h.sf h.lt W
 rw [<- qW h]
 by_cases m0:mg S b=0
 . rw [m0] at D
   obtain ⟨rfl,rfl⟩:=Dx.uniq D aW
   rw [show ((mg S b:Nat):Int)=0 by rw [m0];rfl] at MG
   rw [show decide (mg S b % 2=0)=true by rw [m0];rfl]
   exact aAw (by omega) (by omega) (by omega) (fun W=>gV h W) (fun W=>iZ h.sf h.lt W) HD MG w
 . obtain ⟨_,_,s2,hS,_,_,hIS⟩:=h.sf.fs
   have fin:=h.fin
   obtain ⟨k,e⟩:∃ k,mg S b=k+1:=⟨mg S b - 1,by omega⟩
   have hm:=h.m
   rw [e] at hm D x MG m0 HD ⊢
   have x2:=bR fs (m:=k) (by omega)
   have m2:=dS fs k
   have mo:=jF f L k
   have P2:=fun W=>iZ (b:=k) h.sf (by omega) W
   have gk:mg S k=k:=Nat.mod_eq_of_lt (by omega)
   rw [gk] at P2
   have e1:((k+1:Nat):Int) - 1=(k:Int):=by omega
   have P1:=fun W=>iZ h.sf h.lt W
   rw [e] at P1
   exact aDi (m2:=mt f k) (M:=k+1) (D:=(xp f L (k+1) - xp f L k).toNat) (E2:=xp f L k) (by rw [<- e];omega) (by omega) (by omega) (by omega) (by omega) (by omega) (by omega) (by omega) (by omega) (by omega) (fun W=>gV h W) P1 HD MG (fun W=>by rw [e1];exact P2 W)
    (fun W v hv=>by rw [qU] at hv;exact jU (by omega) (by omega) (by omega) (by omega) D hv) w
theorem oQ {z:Int}{f T:Nat}{L:Int}{S I b:Nat}(h:Fn z f T L S I b) {s t:ByteArray}{p q:Int}(D:Dx s p (loF f L (mg S b))) (E:Dx t q (hiF f L (mg S b))) {u:ByteArray}{o:Int}(hu:VD u o false) (w:World) :
 Cb 25 #[dcV u o false,vU (b:Int),vI z] w (.tuple #[.bool (inB (decide (b % 2=0)) (aE u o s p) (aE u o t q)),vI 0]):=by
 by_cases u0:u.size=0
 . have t0:¬ t.size=0:=by
    have:=E.pos.2 (Nat.lt_of_le_of_lt (Nat.zero_le _) (lG h.sf.fs.1 h.m))
    omega
   rw [eY o q u0 t0]
   refine aAJ (r:=inB (decide (b % 2=0)) (aE u o s p) (-1)) (by omega) ?_ (fun W=>xE h D E W) (fun W=>aH hu W) w
   by_cases s0:s.size=0
   . rw [iA o p u0 s0]
     have m0:mg S b=0:=by
      apply Nat.eq_zero_of_not_pos
      intro c
      have l0:=D.pos
      have:0<loF f L (mg S b):=by
       obtain ⟨k,e⟩:∃ k,mg S b=k+1:=⟨mg S b - 1,by omega⟩
       have hm:=h.m
       rw [e] at hm ⊢
       exact Nat.lt_of_le_of_lt (Nat.zero_le _) (lG h.sf.fs.1 (m:=k) (by omega))
      omega
     have ev:=qW h
     rw [m0] at ev
     rw [<- ev,show ((s.size:Int) == 0)=true by rw [s0];rfl]
     rfl
   . rw [eY o p u0 s0,show ((s.size:Int) == 0)=false from beq_eq_false_iff_ne.mpr (by omega)]
     cases decide (b % 2=0) <;> rfl
 . have e:=wM u o s p
   rw [e]
   exact aDs (beq_eq_false_iff_ne.mpr (by omega)) (fun W=>xE h D E W) (fun W=>aH hu W) (fun W=>uJ (fun W=>iW D.vd hu W) (fun W=>iW hu E.vd W) W) w
theorem aDj    {z : Int} {f T : Nat} {L : Int} {S I b : Nat} (h : Fn z f T L S I b) {s t : ByteArray} {p q : Int} (D : Dx s p (loF f L (mg S b))) (E : Dx t q (hiF f L (mg S b))) {n : Nat} (m0 : mg S b ≠ 0) (n0 : 0 < n) (hn : n ≤ 17) {u : ByteArray} {o : Int} {u1 u2 : ByteArray} {o2 : Int} {Y Z : Nat} (G : Dx u o (vlF f L (mg S b))) (u0 : 0 < u.size) (o1 : o ≤ 1000) (du : Du u o n u1 u2 o2) (D1 : Dx u1 o Y) (D2 : Dx u2 o2 Z) (w : World) :
    Calls Tryz.prog 22 #[.int .u64 (b : Int), .int .i64 z, .int .i64 (n : Int)] w fun e w' => e = .returned (.tuple #[.bool (inB (decide (b % 2 = 0)) (aE   u1 o s p) (aE   u1 o t q) || inB (decide (b % 2 = 0)) (aE   u2 o2 s p) (aE   u2 o2 t q)), .int .i64 0]) ∧ Below w.heap.size w w' := by
  obtain ⟨dn, up⟩ := aCN    (G.vn u0) o1 n0 hn du
  have N := fun W => aBU     (fun W => oP     h G W) dn up (fun W => oQ     h D E D1.vd W) (fun W => oQ     h D E D2.vd W) W
  have M0 : (((mg S b : Nat) : Int) == 0) = false := beq_eq_false_iff_ne.mpr (by omega)
  cases r : inB (decide (b % 2 = 0)) (aE   u1 o s p) (aE   u1 o t q) with
  | true =>
    rw [r] at N
    rw [Bool.true_or]
    exact aB7     (by omega) (by omega) M0 (fun W => gV     h W) (fun W => lV      h.sf h.lt W) N w
  | false =>
    rw [r] at N
    rw [Bool.false_or]
    exact aDk    (by omega) (by omega) M0 (fun W => gV     h W) (fun W => lV      h.sf h.lt W) N w
theorem kX {t:ByteArray}(hd:DG t) (hl:t.size<=800) (h0:pv t t.size ≠ 0) {p:Int}(lo:(t.size:Int)<=p+(R0:Int)) (hp:p<=2000) :
 ∃ (s2:ByteArray) (p2:Int),Dx s2 p2 (pv t t.size * 10 ^ (p+(R0:Int) - (t.size:Int)).toNat)/\∀ W,Cb 46 #[.string t,vI p,.bool false] W (.tuple #[dcV s2 p2 false,vI 0]):=by
 obtain ⟨z,hz,hz1,hz2⟩:=oC t t.size (Nat.le_refl _)
 have zlt:z<t.size:=by
  rcases Nat.lt_or_ge z t.size with c | c
  . exact c
  . exfalso
    apply h0
    have:=eT (t:=t) (u:=t) (z:=z) hz1 0 (fun i a=>by omega)
    rw [Nat.add_zero] at this
    rw [show t.size=z by omega,this]
    rfl
 have hz3:=hz2 zlt
 obtain ⟨u,hu⟩:∃ u,t.extract z t.size=u:=⟨_,rfl⟩
 have us:u.size=t.size - z:=by rw [<- hu];exact dJ hz
 have ud:∀ i,i<t.size - z -> dgt u i=dgt t (z+i):=fun i hi=>by
  rw [<- hu]
  exact lM (Nat.le_refl _) hi
 have dg:DG u:=fun i hi=>by
  rw [<- aA hi,ud i (by omega)]
  exact aF hd _
 obtain ⟨m,m1,m2,m3⟩:=gR u u.size
 have u0:dgt u 0 ≠ 48:=by rw [ud 0 (by omega)];exact hz3
 have m0:0<m:=by
  rcases Nat.eq_zero_or_pos m with c | c
  . exact absurd (m2 0 (by omega) (by omega)) u0
  . exact c
 have ps:=aI (s:=u) (k:=m) m1
 have r:R0=1100:=rfl
 refine ⟨u.extract 0 m,p - (z:Int),⟨Or.inr (eB ⟨by omega,fO dg m1,by rw [aL m1 m0];exact u0,by rw [ps,aL m1 (by omega)];exact m3 m0⟩ (by omega) (by omega) (by omega)),by omega,?_⟩,fun W=>?_⟩
 . rw [ps,cW (s:=u.extract 0 m) (t:=u) m (fun j hj=>aL m1 hj)]
   have a:=eT (t:=t) (u:=u) hz1 (t.size - z) ud
   rw [show z+(t.size - z)=t.size by omega] at a
   have b:=cT (s:=u) (m:=m) (u.size - m) (fun i x y=>m2 i x (by omega))
   rw [show m+(u.size - m)=t.size - z by omega] at b
   rw [a,b,Nat.mul_assoc,<- Nat.pow_add]
   congr 2
   omega
 . exact oR (by omega) hd zlt hz1 hz3 hu (by omega) m1 m0 m2 (m3 m0) (by omega) (by omega) ⟨by omega,by omega⟩ W
def aD (s:ByteArray) (k0 i:Nat):Nat:=if i<k0 then 0 else dgt s (i - k0) - 48
def vS (s:ByteArray) (k0:Nat):Nat -> Nat
 | 0=>0
 | i+1=>10 * vS s k0 i+aD s k0 i
theorem sB      (s : ByteArray) (k0 : Nat) : ∀ i, i ≤ k0 → vS s k0 i = 0
  | 0, _ => rfl
  | i + 1, h => by
    unfold vS
    rw [sB      s k0 i (by omega)]
    unfold aD
    rw [if_pos (by omega)]
theorem uI    (s : ByteArray) (k0 : Nat) : ∀ i, vS s k0 (k0 + i) = pv s i
  | 0 => sB      s k0 k0 (Nat.le_refl _)
  | i + 1 => by
    show 10 * vS s k0 (k0 + i) + aD s k0 (k0 + i) = 10 * pv s i + (dgt s i - 48)
    rw [uI    s k0 i]
    unfold aD
    rw [if_neg (by omega), Nat.add_sub_cancel_left]
theorem mP {s:ByteArray}(hd:DG s) (k0 i:Nat):aD s k0 i<=9:=by
 unfold aD
 split
 . omega
 . have:=aF hd (i - k0);omega
def cR (s t:ByteArray) (k0 k1 n:Nat):Nat -> Nat
 | 0=>0
 | k+1=>(aD s k0 (n - 1 - k)+aD t k1 (n - 1 - k)+cR s t k0 k1 n k) / 10
theorem sM    {s t : ByteArray} (hs : DG s) (ht : DG t) (k0 k1 n : Nat) : ∀ k, cR s t k0 k1 n k ≤ 1
  | 0 => Nat.zero_le _
  | k + 1 => by
    unfold cR
    have a := mP    hs k0 (n - 1 - k)
    have b := mP    ht k1 (n - 1 - k)
    have c := sM    hs ht k0 k1 n k
    omega
def sD (s t:ByteArray) (k0 k1 n j:Nat):Nat:=if j=0 then 48+cR s t k0 k1 n n else 48+(aD s k0 (j - 1)+aD t k1 (j - 1)+cR s t k0 k1 n (n - j)) % 10
theorem rS      {s t v : ByteArray} {k0 k1 n : Nat} (hv : ∀ j, j < n + 1 → dgt v j = sD s t k0 k1 n j) : ∀ i, i ≤ n → pv v (i + 1) = vS s k0 i + vS t k1 i + cR s t k0 k1 n (n - i)
  | 0, _ => by
    show 10 * 0 + (dgt v 0 - 48) = 0 + 0 + cR s t k0 k1 n n
    rw [hv 0 (by omega)]
    unfold sD
    rw [if_pos rfl]
    omega
  | i + 1, h => by
    have ih := rS      hv i (by omega)
    show 10 * pv v (i + 1) + (dgt v (i + 1) - 48) = (10 * vS s k0 i + aD s k0 i) + (10 * vS t k1 i + aD t k1 i) + cR s t k0 k1 n (n - (i + 1))
    rw [ih, hv (i + 1) (by omega)]
    unfold sD
    rw [if_neg (by omega), Nat.add_sub_cancel]
    have e : cR s t k0 k1 n (n - i) = (aD s k0 i + aD t k1 i + cR s t k0 k1 n (n - (i + 1))) / 10 := by
      rw [show n - i = (n - (i + 1)) + 1 by omega]
      show (aD s k0 (n - 1 - (n - (i + 1))) + aD t k1 (n - 1 - (n - (i + 1))) + cR s t k0 k1 n (n - (i + 1))) / 10 = _
      rw [show n - 1 - (n - (i + 1)) = i by omega]
    rw [e]
    omega
theorem aDE {s t v:ByteArray}{p q:Int}{X Y:Nat}(a:Dx s p X) (b:Dx t q Y) {top:Int}{k0 k1 n:Nat}(h0:(k0:Int)=top - p) (h1:(k1:Int)=top - q) (hs:k0+s.size<=n) (ht:k1+t.size<=n) (lo:(n:Int)<=top+(R0:Int)) (hv:∀ j,j<n+1 -> dgt v j=sD s t k0 k1 n j) :
 pv v (n+1) * 10 ^ (top+(R0:Int) - (n:Int)).toNat=X+Y:=by
 have e:=rS hv n (Nat.le_refl _)
 rw [Nat.sub_self] at e
 have c0:cR s t k0 k1 n 0=0:=rfl
 have v1:=uI s k0 (n - k0)
 have v2:=uI t k1 (n - k1)
 rw [show k0+(n - k0)=n by omega] at v1
 rw [show k1+(n - k1)=n by omega] at v2
 rw [e,c0,Nat.add_zero,v1,v2,Nat.add_mul,a.at (M:=n - k0) (by omega) (by omega),b.at (M:=n - k1) (by omega) (by omega)]
 congr 3 <;> omega
theorem uS {u:ByteArray}{o top:Int}{i k0:Nat}(e1:top - o=(k0:Int)) (hi:i<=4000) (hk:k0<=4000) (h:i<k0) (w:World) :
 Cb 49 #[.agg #[.string u,vI o,.bool false],vI top,vI (i:Int)] w (.int .u8 0):=by
 have e2:IntKind.i64.wrap (top - o)=(k0:Int):=by
  unfold IntKind.wrap
  simp [IntKind.bits,IntKind.signed]
  omega
 have e3:IntKind.i64.wrap ((i:Int) - (k0:Int))=(i:Int) - (k0:Int):=by
  unfold IntKind.wrap
  simp [IntKind.bits,IntKind.signed]
  omega
 have g:(i:Int) - (k0:Int)<0:=by omega
 have F0:Hid (Bk (w.alloc (.cells #[.string u,vI o,.bool false] 24)) (w.heap.size) [.string u,vI o,.bool false]/\Bl w (w.alloc (.cells #[.string u,vI o,.bool false] 24))):=⟨Bk.new3 w (.string u) (vI o) (.bool false) 24,((Below.refl w.heap.size w)).alloc (Nat.le_refl _) _⟩
 go_enter Tryz.func49,Tryz.ntmps49
 go_upto_region 1 with fail
 generalize (w.alloc (.cells #[.string u,vI o,.bool false] 24))=w1 at *
 have l1_0:=F0.out.1.lt
 have a1_0_0:=F0.out.1.cell 0 _ rfl
 have f1_0_0:=F0.out.1.fz 0
 have a1_0_1:=F0.out.1.cell 1 _ rfl
 have f1_0_1:=F0.out.1.fz 1
 have a1_0_2:=F0.out.1.cell 2 _ rfl
 have f1_0_2:=F0.out.1.fz 2
 go_wp2
 go_ret
 exact ⟨rfl,F0.out.2⟩
theorem uT {u:ByteArray}{o top:Int}{i k0:Nat}(e1:top - o=(k0:Int)) (hi:i<=4000) (hk:k0<=4000) (h:¬ i<k0) (h2:u.size<=i - k0) (w:World) :
 Cb 49 #[.agg #[.string u,vI o,.bool false],vI top,vI (i:Int)] w (.int .u8 0):=by
 have e2:IntKind.i64.wrap (top - o)=(k0:Int):=by
  unfold IntKind.wrap
  simp [IntKind.bits,IntKind.signed]
  omega
 have e3:IntKind.i64.wrap ((i:Int) - (k0:Int))=(i:Int) - (k0:Int):=by
  unfold IntKind.wrap
  simp [IntKind.bits,IntKind.signed]
  omega
 have g:¬ (i:Int) - (k0:Int)<0:=by omega
 have g2:(u.size:Int)<=(i:Int) - (k0:Int):=by omega
 have F0:Hid (Bk (w.alloc (.cells #[.string u,vI o,.bool false] 24)) (w.heap.size) [.string u,vI o,.bool false]/\Bl w (w.alloc (.cells #[.string u,vI o,.bool false] 24))):=⟨Bk.new3 w (.string u) (vI o) (.bool false) 24,((Below.refl w.heap.size w)).alloc (Nat.le_refl _) _⟩
 go_enter Tryz.func49,Tryz.ntmps49
 go_upto_region 1 with fail
 generalize (w.alloc (.cells #[.string u,vI o,.bool false] 24))=w1 at *
 have l1_0:=F0.out.1.lt
 have a1_0_0:=F0.out.1.cell 0 _ rfl
 have f1_0_0:=F0.out.1.fz 0
 have a1_0_1:=F0.out.1.cell 1 _ rfl
 have f1_0_1:=F0.out.1.fz 1
 have a1_0_2:=F0.out.1.cell 2 _ rfl
 have f1_0_2:=F0.out.1.fz 2
 go_wp2
 go_ret
 exact ⟨rfl,F0.out.2⟩
theorem aDV {u:ByteArray}{o top:Int}{i k0:Nat}(e1:top - o=(k0:Int)) (hi:i<=4000) (hk:k0<=4000) (h:¬ i<k0) (h2:i - k0<u.size) (hd:DG u) (w:World) :
 Cb 49 #[.agg #[.string u,vI o,.bool false],vI top,vI (i:Int)] w (.int .u8 ((dgt u (i - k0) - 48:Nat):Int)):=by
 have e2:IntKind.i64.wrap (top - o)=(k0:Int):=by
  unfold IntKind.wrap
  simp [IntKind.bits,IntKind.signed]
  omega
 have e3:IntKind.i64.wrap ((i:Int) - (k0:Int))=(i:Int) - (k0:Int):=by
  unfold IntKind.wrap
  simp [IntKind.bits,IntKind.signed]
  omega
 have g:¬ (i:Int) - (k0:Int)<0:=by omega
 have g2:¬ (u.size:Int)<=(i:Int) - (k0:Int):=by omega
 have ix:((i:Int) - (k0:Int)).toNat=i - k0:=by omega
 have dd:=aF hd (i - k0)
 rw [aA h2] at dd ⊢
 clear hd
 obtain ⟨y,hy⟩:∃ y,y=(u[i - k0]'h2).toNat:=⟨_,rfl⟩
 rw [<- hy] at dd ⊢
 have w5:IntKind.u8.wrap ((y:Int) - 48)=((y - 48:Nat):Int):=by
  unfold IntKind.wrap
  simp [IntKind.bits,IntKind.signed]
  omega
 have hidx:(u[i - k0]'h2).toNat=y:=hy.symm
 clear hy
 have F0:Hid (Bk (w.alloc (.cells #[.string u,vI o,.bool false] 24)) (w.heap.size) [.string u,vI o,.bool false]/\Bl w (w.alloc (.cells #[.string u,vI o,.bool false] 24))):=⟨Bk.new3 w (.string u) (vI o) (.bool false) 24,((Below.refl w.heap.size w)).alloc (Nat.le_refl _) _⟩
 go_enter Tryz.func49,Tryz.ntmps49
 go_upto_region 1 with fail
 generalize (w.alloc (.cells #[.string u,vI o,.bool false] 24))=w1 at *
 have l1_0:=F0.out.1.lt
 have a1_0_0:=F0.out.1.cell 0 _ rfl
 have f1_0_0:=F0.out.1.fz 0
 have a1_0_1:=F0.out.1.cell 1 _ rfl
 have f1_0_1:=F0.out.1.fz 1
 have a1_0_2:=F0.out.1.cell 2 _ rfl
 have f1_0_2:=F0.out.1.fz 2
 go_wp2
 go_ret
 exact ⟨rfl,F0.out.2⟩
theorem qG {u:ByteArray}{o top:Int}{i k0:Nat}(e1:top - o=(k0:Int)) (hi:i<=4000) (hk:k0<=4000) (hd:DG u) (w:World) :
 Cb 49 #[.agg #[.string u,vI o,.bool false],vI top,vI (i:Int)] w (.int .u8 (aD u k0 i:Int)):=by
 unfold aD
 by_cases h:i<k0
 . rw [if_pos h]
   exact uS e1 hi hk h w
 . rw [if_neg h]
   rcases Nat.lt_or_ge (i - k0) u.size with c | c
   . exact aDV e1 hi hk h c hd w
   . rw [cG c]
     exact uT e1 hi hk h c w
theorem tJ (w:World) (n:Nat):BR (w.alloc (.cells (madeCells #[.int .u8 0] n) 5)) w.heap.size n (fun _=>0):=by
 have h:=World.rowIs_made w (.int .u8 0) n 5
 exact ⟨by rw [World.size_alloc];omega,fun i hi=>h.cell hi,fun i _=>h.frozen i⟩
theorem aBZ {s t e1:ByteArray}{p q top e2:Int}{k0 k1 n:Nat}(hd1:DG s) (hd2:DG t) (hs:s.size<=800) (hs2:t.size<=800) (hp:-2000<=p) (hp2:p<=2000) (hq:-2000<=q) (hq2:q<=2000) (h0:top - p=(k0:Int)) (h1:top - q=(k1:Int)) (l0:k0<=2000) (l1:k1<=2000) (nn:n<=2000) (ht:top=if p<=q then q else p) (hn:(top - (n:Int))=if p - (s.size:Int)<=q - (t.size:Int) then p - (s.size:Int) else q - (t.size:Int)) (HM:∀ v:ByteArray,v.size=n+1 -> (∀ j,j<n+1 -> dgt v j=sD s t k0 k1 n j) -> ∀ W,Cb 46 #[.string v,vI (top+1),.bool false] W (.tuple #[.agg #[.string e1,vI e2,.bool false],vI 0])) (w:World) :
 Cb 26 #[.agg #[.string s,vI p,.bool false],.agg #[.string t,vI q,.bool false]] w (.agg #[.string e1,vI e2,.bool false]):=by
 have HD:Hid (DG s/\DG t):=⟨hd1,hd2⟩
 have HE:Hid (top - p=(k0:Int)/\top - q=(k1:Int)/\k0<=2000/\k1<=2000/\n<=2000):=⟨h0,h1,by omega,by omega,nn⟩
 have HT:Hid (top=if p<=q then q else p):=ht
 have HN:Hid ((top - (n:Int))=if p - (s.size:Int)<=q - (t.size:Int) then p - (s.size:Int) else q - (t.size:Int)):=hn
 have HMM:Hid (∀ v:ByteArray,v.size=n+1 -> (∀ j,j<n+1 -> dgt v j=sD s t k0 k1 n j) -> ∀ W,Cb 46 #[.string v,vI (top+1),.bool false] W (.tuple #[.agg #[.string e1,vI e2,.bool false],vI 0])):=HM
 have hmk:=run_make_row' (P:=Tryz.prog) 88 5 (.int .u8 0) 1 aU lR rfl .i64 .i64 (n+1) (by omega) (by omega)
 simp only [Int.natCast_add,Int.natCast_one] at hmk
 have wn:IntKind.i64.wrap ((n:Int)+1)=(n:Int)+1:=by
  unfold IntKind.wrap
  simp [IntKind.bits,IntKind.signed]
  omega
 have wt:IntKind.i64.wrap (top+1)=top+1:=by
  unfold IntKind.wrap
  simp [IntKind.bits,IntKind.signed]
  omega
 have ws:IntKind.i64.wrap (p - (s.size:Int))=p - (s.size:Int):=by
  unfold IntKind.wrap
  simp [IntKind.bits,IntKind.signed]
  omega
 have wu:IntKind.i64.wrap (q - (t.size:Int))=q - (t.size:Int):=by
  unfold IntKind.wrap
  simp [IntKind.bits,IntKind.signed]
  omega
 clear hd1 hd2 h0 h1 ht hn HM
 have F0:Hid (Bk (((w.alloc (.cells #[.string s,vI p,.bool false] 24)).alloc (.cells #[.string t,vI q,.bool false] 24)).alloc (.cells #[.string ⟨#[]⟩,vI 0,.bool false] 24)) (w.heap.size) [.string s,vI p,.bool false]/\Bk (((w.alloc (.cells #[.string s,vI p,.bool false] 24)).alloc (.cells #[.string t,vI q,.bool false] 24)).alloc (.cells #[.string ⟨#[]⟩,vI 0,.bool false] 24)) (w.heap.size+1) [.string t,vI q,.bool false]/\Bk (((w.alloc (.cells #[.string s,vI p,.bool false] 24)).alloc (.cells #[.string t,vI q,.bool false] 24)).alloc (.cells #[.string ⟨#[]⟩,vI 0,.bool false] 24)) (w.heap.size+1+1) [.string ⟨#[]⟩,vI 0,.bool false]/\Bl w (((w.alloc (.cells #[.string s,vI p,.bool false] 24)).alloc (.cells #[.string t,vI q,.bool false] 24)).alloc (.cells #[.string ⟨#[]⟩,vI 0,.bool false] 24))):=⟨((Bk.new3 w (.string s) (vI p) (.bool false) 24).step (bz _ _)).step (bz _ _),(((by have q:=Bk.new3 (w.alloc (.cells #[.string s,vI p,.bool false] 24)) (.string t) (vI q) (.bool false) 24;simpa using q):Bk ((w.alloc (.cells #[.string s,vI p,.bool false] 24)).alloc (.cells #[.string t,vI q,.bool false] 24)) (w.heap.size+1) [.string t,vI q,.bool false])).step (bz _ _),((by have q:=Bk.new3 ((w.alloc (.cells #[.string s,vI p,.bool false] 24)).alloc (.cells #[.string t,vI q,.bool false] 24)) (.string ⟨#[]⟩) (vI 0) (.bool false) 24;simpa using q):Bk (((w.alloc (.cells #[.string s,vI p,.bool false] 24)).alloc (.cells #[.string t,vI q,.bool false] 24)).alloc (.cells #[.string ⟨#[]⟩,vI 0,.bool false] 24)) (w.heap.size+1+1) [.string ⟨#[]⟩,vI 0,.bool false]),((((Below.refl w.heap.size w)).alloc (Nat.le_refl _) _).alloc ((((Below.refl w.heap.size w)).alloc (Nat.le_refl _) _).size) _).alloc (((((Below.refl w.heap.size w)).alloc (Nat.le_refl _) _).alloc ((((Below.refl w.heap.size w)).alloc (Nat.le_refl _) _).size) _).size) _⟩
 go_enter Tryz.func26,Tryz.ntmps26
 go_upto_region 1 with fail
 generalize (((w.alloc (.cells #[.string s,vI p,.bool false] 24)).alloc (.cells #[.string t,vI q,.bool false] 24)).alloc (.cells #[.string ⟨#[]⟩,vI 0,.bool false] 24))=w1 at *
 have l1_0:=F0.out.1.lt
 have a1_0_0:=F0.out.1.cell 0 _ rfl
 have f1_0_0:=F0.out.1.fz 0
 have a1_0_1:=F0.out.1.cell 1 _ rfl
 have f1_0_1:=F0.out.1.fz 1
 have a1_0_2:=F0.out.1.cell 2 _ rfl
 have f1_0_2:=F0.out.1.fz 2
 have l1_1:=F0.out.2.1.lt
 have a1_1_0:=F0.out.2.1.cell 0 _ rfl
 have f1_1_0:=F0.out.2.1.fz 0
 have a1_1_1:=F0.out.2.1.cell 1 _ rfl
 have f1_1_1:=F0.out.2.1.fz 1
 have a1_1_2:=F0.out.2.1.cell 2 _ rfl
 have f1_1_2:=F0.out.2.1.fz 2
 have l1_2:=F0.out.2.2.1.lt
 have a1_2_0:=F0.out.2.2.1.cell 0 _ rfl
 have f1_2_0:=F0.out.2.2.1.fz 0
 have a1_2_1:=F0.out.2.2.1.cell 1 _ rfl
 have f1_2_1:=F0.out.2.2.1.fz 1
 have a1_2_2:=F0.out.2.2.1.cell 2 _ rfl
 have f1_2_2:=F0.out.2.2.1.fz 2
 have ne1_0_1:¬ w.heap.size=w.heap.size+1:=by omega
 have ne1_0_2:¬ w.heap.size=w.heap.size+1+1:=by omega
 have ne1_1_0:¬ w.heap.size+1=w.heap.size:=by omega
 have ne1_1_2:¬ w.heap.size+1=w.heap.size+1+1:=by omega
 have ne1_2_0:¬ w.heap.size+1+1=w.heap.size:=by omega
 have ne1_2_1:¬ w.heap.size+1+1=w.heap.size+1:=by omega
 go_cut [5] from 14 to 18 (fun v5 wx=>v5=vI top/\Hid (Bk wx (w.heap.size) [.string s,vI p,.bool false]/\Bk wx (w.heap.size+1) [.string t,vI q,.bool false]/\Bk wx (w.heap.size+1+1) [.string ⟨#[]⟩,vI 0,.bool false]/\Bl w wx))
 case first =>
  go_wp2
  all_goals go_meet
  all_goals refine ⟨?_,F0.out⟩
  all_goals have:=HT.out
  all_goals split at this <;> (congr 1;try omega)
 case rest =>
 obtain ⟨rfl,HC⟩:=hcut
 clear F0 HT
 clear l1_0 a1_0_0 f1_0_0 a1_0_1 f1_0_1 a1_0_2 f1_0_2 l1_1 a1_1_0 f1_1_0 a1_1_1 f1_1_1 a1_1_2 f1_1_2 l1_2 a1_2_0 f1_2_0 a1_2_1 f1_2_1 a1_2_2 f1_2_2
 have F50:Hid (Bk wc (w.heap.size) [.string s,vI p,.bool false]/\Bk wc (w.heap.size+1) [.string t,vI q,.bool false]/\Bk wc (w.heap.size+1+1) [.string ⟨#[]⟩,vI 0,.bool false]/\Bl w wc):=HC
 clear HC
 generalize wc=w51 at *
 have l6_0:=F50.out.1.lt
 have a6_0_0:=F50.out.1.cell 0 _ rfl
 have f6_0_0:=F50.out.1.fz 0
 have a6_0_1:=F50.out.1.cell 1 _ rfl
 have f6_0_1:=F50.out.1.fz 1
 have a6_0_2:=F50.out.1.cell 2 _ rfl
 have f6_0_2:=F50.out.1.fz 2
 have l6_1:=F50.out.2.1.lt
 have a6_1_0:=F50.out.2.1.cell 0 _ rfl
 have f6_1_0:=F50.out.2.1.fz 0
 have a6_1_1:=F50.out.2.1.cell 1 _ rfl
 have f6_1_1:=F50.out.2.1.fz 1
 have a6_1_2:=F50.out.2.1.cell 2 _ rfl
 have f6_1_2:=F50.out.2.1.fz 2
 have l6_2:=F50.out.2.2.1.lt
 have a6_2_0:=F50.out.2.2.1.cell 0 _ rfl
 have f6_2_0:=F50.out.2.2.1.fz 0
 have a6_2_1:=F50.out.2.2.1.cell 1 _ rfl
 have f6_2_1:=F50.out.2.2.1.fz 1
 have a6_2_2:=F50.out.2.2.1.cell 2 _ rfl
 have f6_2_2:=F50.out.2.2.1.fz 2
 have ne6_0_1:¬ w.heap.size=w.heap.size+1:=by omega
 have ne6_0_2:¬ w.heap.size=w.heap.size+1+1:=by omega
 have ne6_1_0:¬ w.heap.size+1=w.heap.size:=by omega
 have ne6_1_2:¬ w.heap.size+1=w.heap.size+1+1:=by omega
 have ne6_2_0:¬ w.heap.size+1+1=w.heap.size:=by omega
 have ne6_2_1:¬ w.heap.size+1+1=w.heap.size+1:=by omega
 go_upto_region 2 with fail
 go_cut [6] from 19 to 31 (fun v6 wx=>v6=vI (top - (n:Int))/\Hid (Bk wx (w.heap.size) [.string s,vI p,.bool false]/\Bk wx (w.heap.size+1) [.string t,vI q,.bool false]/\Bk wx (w.heap.size+1+1) [.string ⟨#[]⟩,vI 0,.bool false]/\Bl w wx))
 case first =>
  go_wp2
  all_goals go_meet
  all_goals refine ⟨?_,F50.out⟩
  all_goals have:=HN.out
  all_goals split at this <;> (congr 1;try omega)
 case rest =>
 obtain ⟨rfl,HC⟩:=hcut
 clear F50 HN
 clear l6_0 a6_0_0 f6_0_0 a6_0_1 f6_0_1 a6_0_2 f6_0_2 l6_1 a6_1_0 f6_1_0 a6_1_1 f6_1_1 a6_1_2 f6_1_2 l6_2 a6_2_0 f6_2_0 a6_2_1 f6_2_1 a6_2_2 f6_2_2
 have F60:Hid (Bk wc (w.heap.size) [.string s,vI p,.bool false]/\Bk wc (w.heap.size+1) [.string t,vI q,.bool false]/\Bk wc (w.heap.size+1+1) [.string ⟨#[]⟩,vI 0,.bool false]/\Bl w wc):=HC
 clear HC
 have en:top - (top - (n:Int))=(n:Int):=by omega
 have l11_0:=F60.out.1.lt
 have a11_0_0:=F60.out.1.cell 0 _ rfl
 have f11_0_0:=F60.out.1.fz 0
 have a11_0_1:=F60.out.1.cell 1 _ rfl
 have f11_0_1:=F60.out.1.fz 1
 have a11_0_2:=F60.out.1.cell 2 _ rfl
 have f11_0_2:=F60.out.1.fz 2
 have l11_1:=F60.out.2.1.lt
 have a11_1_0:=F60.out.2.1.cell 0 _ rfl
 have f11_1_0:=F60.out.2.1.fz 0
 have a11_1_1:=F60.out.2.1.cell 1 _ rfl
 have f11_1_1:=F60.out.2.1.fz 1
 have a11_1_2:=F60.out.2.1.cell 2 _ rfl
 have f11_1_2:=F60.out.2.1.fz 2
 have l11_2:=F60.out.2.2.1.lt
 have a11_2_0:=F60.out.2.2.1.cell 0 _ rfl
 have f11_2_0:=F60.out.2.2.1.fz 0
 have a11_2_1:=F60.out.2.2.1.cell 1 _ rfl
 have f11_2_1:=F60.out.2.2.1.fz 1
 have a11_2_2:=F60.out.2.2.1.cell 2 _ rfl
 have f11_2_2:=F60.out.2.2.1.fz 2
 have ne11_0_1:¬ w.heap.size=w.heap.size+1:=by omega
 have ne11_0_2:¬ w.heap.size=w.heap.size+1+1:=by omega
 have ne11_1_0:¬ w.heap.size+1=w.heap.size:=by omega
 have ne11_1_2:¬ w.heap.size+1=w.heap.size+1+1:=by omega
 have ne11_2_0:¬ w.heap.size+1+1=w.heap.size:=by omega
 have ne11_2_1:¬ w.heap.size+1+1=w.heap.size+1:=by omega
 go_wp2
 clear l11_0 a11_0_0 f11_0_0 a11_0_1 f11_0_1 a11_0_2 f11_0_2 l11_1 a11_1_0 f11_1_0 a11_1_1 f11_1_1 a11_1_2 f11_1_2 l11_2 a11_2_0 f11_2_0 a11_2_1 f11_2_1 a11_2_2 f11_2_2
 have lk0:=(F60.out.1).lt
 have lk1:=(F60.out.2.1).lt
 have lk2:=(F60.out.2.2.1).lt
 have lw:=(F60.out.2.2.2).size
 have IB:Hid (Bk (wc.alloc (.cells (madeCells #[.int .u8 0] (n+1)) 5)) (w.heap.size) [.string s,vI p,.bool false]/\Bk (wc.alloc (.cells (madeCells #[.int .u8 0] (n+1)) 5)) (w.heap.size+1) [.string t,vI q,.bool false]/\Bk (wc.alloc (.cells (madeCells #[.int .u8 0] (n+1)) 5)) (w.heap.size+1+1) [.string ⟨#[]⟩,vI 0,.bool false]/\BR (wc.alloc (.cells (madeCells #[.int .u8 0] (n+1)) 5)) (wc.heap.size) (n+1) (fun _=>0)/\Bl w (wc.alloc (.cells (madeCells #[.int .u8 0] (n+1)) 5))):=⟨(F60.out.1).step (bz _ _),(F60.out.2.1).step (bz _ _),(F60.out.2.2.1).step (bz _ _),tJ _ _,(F60.out.2.2.2).alloc ((F60.out.2.2.2).size) _⟩
 clear F60 hmk
 go_loopw [9,10,11] (fun v9 v10 _ wr=>∃ (k:Nat) (F:Nat -> Nat),v9=.int .u8 ((cR s t k0 k1 n k:Nat):Int)/\v10=vI ((n:Int) - 1 - (k:Int))/\k<=n/\Hid (Bk wr (w.heap.size) [.string s,vI p,.bool false]/\Bk wr (w.heap.size+1) [.string t,vI q,.bool false]/\Bk wr (w.heap.size+1+1) [.string ⟨#[]⟩,vI 0,.bool false]/\BR wr (wc.heap.size) (n+1) F/\Bl w wr)/\Hid (∀ i,n - k<i -> i<=n -> F i=sD s t k0 k1 n i)) (fun _ v10 _ _=>(intOf v10+1).toNat)
 case atStart=>exact ⟨0,_,rfl,by go_num,Nat.zero_le _,IB.out,fun i a b=>absurd a (by omega)⟩
 case round =>
  obtain ⟨k,F,rfl,rfl,hk,HB,HF⟩:=hrel
  clear IB
  obtain ⟨n9,h9⟩:∃ c,c=cR s t k0 k1 n k:=⟨_,rfl⟩
  have c9:n9<=1:=by rw [h9];exact sM HD.out.1 HD.out.2 k0 k1 n k
  rw [<- h9]
  by_cases c1:k<n
  . obtain ⟨i,hi⟩:∃ i,i=n - 1 - k:=⟨_,rfl⟩
    have ii:(n:Int) - 1 - (k:Int)=(i:Int):=by omega
    rw [ii]
    obtain ⟨a,ha⟩:∃ a,a=aD s k0 i:=⟨_,rfl⟩
    obtain ⟨b,hb⟩:∃ b,b=aD t k1 i:=⟨_,rfl⟩
    have a9:a<=9:=by rw [ha];exact mP HD.out.1 k0 i
    have b9:b<=9:=by rw [hb];exact mP HD.out.2 k1 i
    obtain ⟨y,hy⟩:∃ y,y=a+b+n9:=⟨_,rfl⟩
    obtain ⟨r,hr⟩:∃ r,r=y % 10:=⟨_,rfl⟩
    obtain ⟨z,hz⟩:∃ z,z=y / 10:=⟨_,rfl⟩
    obtain ⟨d,hdd⟩:∃ d,d=48+r:=⟨_,rfl⟩
    have HX:∀ (V:Value) (x:Nat),((V=.agg #[.string s,vI p,.bool false]/\x=a) \/ (V=.agg #[.string t,vI q,.bool false]/\x=b)) -> ∀ W,Cb 49 #[V,vI top,vI (i:Int)] W (.int .u8 (x:Int)):=by
     rintro V x (⟨rfl,rfl⟩ | ⟨rfl,rfl⟩) W
     . rw [ha];exact qG HE.out.1 (by have:=HE.out;omega) (by have:=HE.out;omega) HD.out.1 W
     . rw [hb];exact qG HE.out.2.1 (by have:=HE.out;omega) (by have:=HE.out;omega) HD.out.2 W
    have HV:Hid (z=cR s t k0 k1 n (k+1)/\d=sD s t k0 k1 n (i+1)/\i=n - 1 - k/\k<n):=by
     refine ⟨?_,?_,hi,c1⟩
     . show _=(aD s k0 (n - 1 - k)+aD t k1 (n - 1 - k)+cR s t k0 k1 n k) / 10
       rw [<- hi,<- ha,<- hb,<- h9,<- hy];exact hz
     . unfold sD
       rw [if_neg (by omega),Nat.add_sub_cancel,<- ha,<- hb,show n - (i+1)=k by omega,<- h9,<- hy,<- hr];exact hdd
    have e1:IntKind.u8.wrap ((a:Int)+(b:Int))=((a+b:Nat):Int):=by
     unfold IntKind.wrap
     simp [IntKind.bits,IntKind.signed]
     omega
    have e2:IntKind.u8.wrap (((a+b:Nat):Int)+(n9:Int))=(y:Int):=by
     unfold IntKind.wrap
     simp [IntKind.bits,IntKind.signed]
     omega
    have e2':IntKind.u8.wrap ((a:Int)+(b:Int)+(n9:Int))=(y:Int):=by
     unfold IntKind.wrap
     simp [IntKind.bits,IntKind.signed]
     omega
    have e5:(y:Int).tmod 10=(r:Int):=by rw [Int.tmod_eq_emod_of_nonneg (by omega)];omega
    have e5':(y:Int) % 10=(r:Int):=by omega
    have e6:(y:Int).tdiv 10=(z:Int):=by rw [Int.tdiv_eq_ediv_of_nonneg (by omega)];omega
    have e7:IntKind.u8.wrap (48+(r:Int))=(d:Int):=by
     unfold IntKind.wrap
     simp [IntKind.bits,IntKind.signed]
     omega
    have e8:(y:Int) / 10=(z:Int):=by omega
    have e9:IntKind.u8.wrap (z:Int)=(z:Int):=by
     unfold IntKind.wrap
     simp [IntKind.bits,IntKind.signed]
     omega
    have e10:IntKind.i64.wrap ((i:Int)+1)=((i+1:Nat):Int):=by
     unfold IntKind.wrap
     simp [IntKind.bits,IntKind.signed]
     omega
    have e11:IntKind.i64.wrap ((i:Int) - 1)=(i:Int) - 1:=by
     unfold IntKind.wrap
     simp [IntKind.bits,IntKind.signed]
     omega
    have i0:(0:Int)<=(i:Int):=by omega
    have i1:((i+1:Nat):Int)<(n:Int)+1:=by omega
    have i2:(((i+1:Nat):Int)).toNat=i+1:=by omega
    have i3:(0:Int)<=((i+1:Nat):Int):=by omega
    have in1:i<n:=by omega
    clear ha hb hy hr hz hdd h9 c9 a9 b9 c1 hi ii
    have hg:=HB.out.2.2.2.1.lt
    have hcl:=HB.out.2.2.2.1.row.cell (i+1) (by omega)
    have hfr:=HB.out.2.2.2.1.row.fr (i+1) (by omega)
    have F80:Hid (Bk wr (w.heap.size) [.string s,vI p,.bool false]/\Bk wr (w.heap.size+1) [.string t,vI q,.bool false]/\Bk wr (w.heap.size+1+1) [.string ⟨#[]⟩,vI 0,.bool false]/\BR wr (wc.heap.size) (n+1) F/\Bl w wr):=HB
    clear HB
    have l41_0:=F80.out.1.lt
    have a41_0_0:=F80.out.1.cell 0 _ rfl
    have f41_0_0:=F80.out.1.fz 0
    have a41_0_1:=F80.out.1.cell 1 _ rfl
    have f41_0_1:=F80.out.1.fz 1
    have a41_0_2:=F80.out.1.cell 2 _ rfl
    have f41_0_2:=F80.out.1.fz 2
    have l41_1:=F80.out.2.1.lt
    have a41_1_0:=F80.out.2.1.cell 0 _ rfl
    have f41_1_0:=F80.out.2.1.fz 0
    have a41_1_1:=F80.out.2.1.cell 1 _ rfl
    have f41_1_1:=F80.out.2.1.fz 1
    have a41_1_2:=F80.out.2.1.cell 2 _ rfl
    have f41_1_2:=F80.out.2.1.fz 2
    have l41_2:=F80.out.2.2.1.lt
    have a41_2_0:=F80.out.2.2.1.cell 0 _ rfl
    have f41_2_0:=F80.out.2.2.1.fz 0
    have a41_2_1:=F80.out.2.2.1.cell 1 _ rfl
    have f41_2_1:=F80.out.2.2.1.fz 1
    have a41_2_2:=F80.out.2.2.1.cell 2 _ rfl
    have f41_2_2:=F80.out.2.2.1.fz 2
    have ne41_0_1:¬ w.heap.size=w.heap.size+1:=by omega
    have ne41_0_2:¬ w.heap.size=w.heap.size+1+1:=by omega
    have ne41_1_0:¬ w.heap.size+1=w.heap.size:=by omega
    have ne41_1_2:¬ w.heap.size+1=w.heap.size+1+1:=by omega
    have ne41_2_0:¬ w.heap.size+1+1=w.heap.size:=by omega
    have ne41_2_1:¬ w.heap.size+1+1=w.heap.size+1:=by omega
    go_upto_region 9 with fail
    go_region_held3 (fun w'=>w'.cell? ⟨w.heap.size,0,none⟩=some (.string s)/\w'.cell? ⟨w.heap.size,1,none⟩=some (vI p)/\w'.cell? ⟨w.heap.size,2,none⟩=some (.bool false)/\w'.cell? ⟨w.heap.size+1,0,none⟩=some (.string t)/\w'.cell? ⟨w.heap.size+1,1,none⟩=some (vI q)/\w'.cell? ⟨w.heap.size+1,2,none⟩=some (.bool false)) (simp [*,go_sem]) (first | (go_at_call 49;refine (HX _ _ (by first | exact Or.inl ⟨rfl,rfl⟩ | exact Or.inr ⟨rfl,rfl⟩) _).mono ?_;rintro px vx ⟨rfl,bb⟩;first | (have Gb:Hid (Bk vx (w.heap.size) [.string s,vI p,.bool false]/\Bk vx (w.heap.size+1) [.string t,vI q,.bool false]/\Bk vx (w.heap.size+1+1) [.string ⟨#[]⟩,vI 0,.bool false]/\BR vx (wc.heap.size) (n+1) (F)/\Bl w vx):=⟨(Ga.out.1).step bb,(Ga.out.2.1).step bb,(Ga.out.2.2.1).step bb,(Ga.out.2.2.2.1).step bb,(Ga.out.2.2.2.2).trans (bb.mono (Ga.out.2.2.2.2).size)⟩;clear bb;have db_0:=(Gb.out.1).lt;have db_0_0:=(Gb.out.1).cell 0 _ rfl;have db_0_1:=(Gb.out.1).cell 1 _ rfl;have db_0_2:=(Gb.out.1).cell 2 _ rfl;have db_1:=(Gb.out.2.1).lt;have db_1_0:=(Gb.out.2.1).cell 0 _ rfl;have db_1_1:=(Gb.out.2.1).cell 1 _ rfl;have db_1_2:=(Gb.out.2.1).cell 2 _ rfl;have db_2:=(Gb.out.2.2.1).lt;have db_2_0:=(Gb.out.2.2.1).cell 0 _ rfl;have db_2_1:=(Gb.out.2.2.1).cell 1 _ rfl;have db_2_2:=(Gb.out.2.2.1).cell 2 _ rfl;have db_c:=(Gb.out.2.2.2.1).row.cell (i+1) (by omega);have eb_c:=(Gb.out.2.2.2.1).row.fr (i+1) (by omega)) | (have Ga:Hid (Bk vx (w.heap.size) [.string s,vI p,.bool false]/\Bk vx (w.heap.size+1) [.string t,vI q,.bool false]/\Bk vx (w.heap.size+1+1) [.string ⟨#[]⟩,vI 0,.bool false]/\BR vx (wc.heap.size) (n+1) (F)/\Bl w vx):=⟨((F80.out.1).step (Below.refl _ _).drew).step bb,((F80.out.2.1).step (Below.refl _ _).drew).step bb,((F80.out.2.2.1).step (Below.refl _ _).drew).step bb,((F80.out.2.2.2.1).step (Below.refl _ _).drew).step bb,((F80.out.2.2.2.2).drew).trans (bb.mono (F80.out.2.2.2.2).size)⟩;clear bb;have da_0:=(Ga.out.1).lt;have da_0_0:=(Ga.out.1).cell 0 _ rfl;have da_0_1:=(Ga.out.1).cell 1 _ rfl;have da_0_2:=(Ga.out.1).cell 2 _ rfl;have da_1:=(Ga.out.2.1).lt;have da_1_0:=(Ga.out.2.1).cell 0 _ rfl;have da_1_1:=(Ga.out.2.1).cell 1 _ rfl;have da_1_2:=(Ga.out.2.1).cell 2 _ rfl;have da_2:=(Ga.out.2.2.1).lt;have da_2_0:=(Ga.out.2.2.1).cell 0 _ rfl;have da_2_1:=(Ga.out.2.2.1).cell 1 _ rfl;have da_2_2:=(Ga.out.2.2.1).cell 2 _ rfl;have da_c:=(Ga.out.2.2.2.1).row.cell (i+1) (by omega);have ea_c:=(Ga.out.2.2.2.1).row.fr (i+1) (by omega))))
    all_goals go_wp2
    all_goals go_roundw
    case rel =>
     have hv:=HV.out
     refine ⟨k+1,aJ F (i+1) d,by rw [<- hv.1],by go_num,by omega,⟨(Gb.out.1).setC (by omega) _ _,(Gb.out.2.1).setC (by omega) _ _,(Gb.out.2.2.1).setC (by omega) _ _,(Gb.out.2.2.2.1).set (by omega) d,(Gb.out.2.2.2.2).setCell (by show w.heap.size<=wc.heap.size;omega) _⟩,fun j a b=>?_⟩
     unfold aJ
     by_cases e:j=i+1
     . rw [if_pos e,e];exact hv.2.1
     . rw [if_neg e];exact HF.out j (by omega) b
    case measure =>
     have hv:=HV.out
     simp [intOf] <;> omega
  . obtain rfl:k=n:=by omega
    have ii:(k:Int) - 1 - (k:Int) = -1:=by omega
    rw [ii]
    obtain ⟨d,hdd⟩:∃ d,d=48+n9:=⟨_,rfl⟩
    have e7:IntKind.u8.wrap (48+(n9:Int))=(d:Int):=by
     unfold IntKind.wrap
     simp [IntKind.bits,IntKind.signed]
     omega
    have hg:=HB.out.2.2.2.1.lt
    have hcl:=HB.out.2.2.2.1.row.cell 0 (by omega)
    have hfr:=HB.out.2.2.2.1.row.fr 0 (by omega)
    have RB:=(HB.out.2.2.2.1).set (i:=0) (by omega) d
    obtain ⟨v,vs,vd,vc⟩:=jW (C:=k+1) RB (fun i hi=>by
     unfold aJ
     split
     . omega
     . rw [HF.out i (by omega) (by omega)]
       unfold sD
       split
       . omega
       . omega)
    have vcv:=vc _ (fun i _=>rfl)
    have HV:Hid (∀ i,i<k+1 -> dgt v i=sD s t k0 k1 k i):=fun i hi=>by
     rw [vd i hi]
     unfold aJ
     by_cases z:i=0
     . rw [if_pos z,z,hdd]
       unfold sD
       rw [if_pos rfl,<- h9]
     . rw [if_neg z];exact HF.out i (by omega) (by omega)
    have MM:=HMM.out v vs HV.out
    have F90:Hid (Bk (wr.setCell ⟨wc.heap.size,0,none⟩ (.int .u8 (d:Int))) (w.heap.size) [.string s,vI p,.bool false]/\Bk (wr.setCell ⟨wc.heap.size,0,none⟩ (.int .u8 (d:Int))) (w.heap.size+1) [.string t,vI q,.bool false]/\Bk (wr.setCell ⟨wc.heap.size,0,none⟩ (.int .u8 (d:Int))) (w.heap.size+1+1) [.string ⟨#[]⟩,vI 0,.bool false]/\Bl w (wr.setCell ⟨wc.heap.size,0,none⟩ (.int .u8 (d:Int)))):=⟨(HB.out.1).setC (by omega) _ _,(HB.out.2.1).setC (by omega) _ _,(HB.out.2.2.1).setC (by omega) _ _,(HB.out.2.2.2.2).setCell (by show w.heap.size<=wc.heap.size;omega) _⟩
    clear RB vc vd h9 hdd HV HF HMM
    go_upto_region 13 with fail
    generalize (wr.setCell ⟨wc.heap.size,0,none⟩ (.int .u8 (d:Int)))=w91 at *
    go_wp2_with fail
    all_goals first | (exfalso;omega) | skip
    refine (MM _).mono ?_
    rintro o92 w92 ⟨rfl,bb⟩
    have F91:Hid (Bk w92 (w.heap.size) [.string s,vI p,.bool false]/\Bk w92 (w.heap.size+1) [.string t,vI q,.bool false]/\Bk w92 (w.heap.size+1+1) [.string ⟨#[]⟩,vI 0,.bool false]/\Bl w w92):=⟨(F90.out.1).step bb,(F90.out.2.1).step bb,(F90.out.2.2.1).step bb,(F90.out.2.2.2).trans (bb.mono (F90.out.2.2.2).size)⟩
    clear F90
    clear bb
    clear vcv
    have lt0_3:=(F91.out.1).lt
    have lt1_3:=(F91.out.2.1).lt
    have lt2_3:=(F91.out.2.2.1).lt
    have le3:=(F91.out.2.2.2).size
    have F92:Hid (Bk (w92.alloc (.cells #[.string e1,vI e2,.bool false] 24)) (w.heap.size) [.string s,vI p,.bool false]/\Bk (w92.alloc (.cells #[.string e1,vI e2,.bool false] 24)) (w.heap.size+1) [.string t,vI q,.bool false]/\Bk (w92.alloc (.cells #[.string e1,vI e2,.bool false] 24)) (w.heap.size+1+1) [.string ⟨#[]⟩,vI 0,.bool false]/\Bk (w92.alloc (.cells #[.string e1,vI e2,.bool false] 24)) (w92.heap.size) [.string e1,vI e2,.bool false]/\Bl w (w92.alloc (.cells #[.string e1,vI e2,.bool false] 24))):=⟨(F91.out.1).step (bz _ _),(F91.out.2.1).step (bz _ _),(F91.out.2.2.1).step (bz _ _),Bk.new3 w92 (.string e1) (vI e2) (.bool false) 24,(F91.out.2.2.2).alloc ((F91.out.2.2.2).size) _⟩
    clear F91
    go_upto_region 14 with fail
    generalize (w92.alloc (.cells #[.string e1,vI e2,.bool false] 24))=w93 at *
    have l61_0:=F92.out.1.lt
    have a61_0_0:=F92.out.1.cell 0 _ rfl
    have f61_0_0:=F92.out.1.fz 0
    have a61_0_1:=F92.out.1.cell 1 _ rfl
    have f61_0_1:=F92.out.1.fz 1
    have a61_0_2:=F92.out.1.cell 2 _ rfl
    have f61_0_2:=F92.out.1.fz 2
    have l61_1:=F92.out.2.1.lt
    have a61_1_0:=F92.out.2.1.cell 0 _ rfl
    have f61_1_0:=F92.out.2.1.fz 0
    have a61_1_1:=F92.out.2.1.cell 1 _ rfl
    have f61_1_1:=F92.out.2.1.fz 1
    have a61_1_2:=F92.out.2.1.cell 2 _ rfl
    have f61_1_2:=F92.out.2.1.fz 2
    have l61_2:=F92.out.2.2.1.lt
    have a61_2_0:=F92.out.2.2.1.cell 0 _ rfl
    have f61_2_0:=F92.out.2.2.1.fz 0
    have a61_2_1:=F92.out.2.2.1.cell 1 _ rfl
    have f61_2_1:=F92.out.2.2.1.fz 1
    have a61_2_2:=F92.out.2.2.1.cell 2 _ rfl
    have f61_2_2:=F92.out.2.2.1.fz 2
    have l61_3:=F92.out.2.2.2.1.lt
    have a61_3_0:=F92.out.2.2.2.1.cell 0 _ rfl
    have f61_3_0:=F92.out.2.2.2.1.fz 0
    have a61_3_1:=F92.out.2.2.2.1.cell 1 _ rfl
    have f61_3_1:=F92.out.2.2.2.1.fz 1
    have a61_3_2:=F92.out.2.2.2.1.cell 2 _ rfl
    have f61_3_2:=F92.out.2.2.2.1.fz 2
    have ne61_0_1:¬ w.heap.size=w.heap.size+1:=by omega
    have ne61_0_2:¬ w.heap.size=w.heap.size+1+1:=by omega
    have ne61_0_3:¬ w.heap.size=w92.heap.size:=by omega
    have ne61_1_0:¬ w.heap.size+1=w.heap.size:=by omega
    have ne61_1_2:¬ w.heap.size+1=w.heap.size+1+1:=by omega
    have ne61_1_3:¬ w.heap.size+1=w92.heap.size:=by omega
    have ne61_2_0:¬ w.heap.size+1+1=w.heap.size:=by omega
    have ne61_2_1:¬ w.heap.size+1+1=w.heap.size+1:=by omega
    have ne61_2_3:¬ w.heap.size+1+1=w92.heap.size:=by omega
    have ne61_3_0:¬ w92.heap.size=w.heap.size:=by omega
    have ne61_3_1:¬ w92.heap.size=w.heap.size+1:=by omega
    have ne61_3_2:¬ w92.heap.size=w.heap.size+1+1:=by omega
    go_wp2
    refine bodyPost_ret (v:=.agg #[.string e1,vI e2,.bool false]) (by simp [results,Tryz.results26,go_sem,World.cell?_setCell_same,World.cell?_setCell_other, *]) rfl ⟨rfl,?_⟩
    repeat (first | refine Below.setCell ?_ (by first | exact Nat.le_refl _ | (dsimp only;omega)) _ | refine Below.alloc ?_ (by first | exact Nat.le_refl _ | omega | (simp;omega)) _ | refine Below.drew ?_)
    exact F92.out.2.2.2.2
end Go.Proofs.YtblkokjkmbpejaaGreatDoor
