/-
  Holds: URnJ UBtR PsR PsI PsJ PsIs PsIr PsW LawPLa LawPLists.
-/
import Derived.Test.YtejgpbhionadbaaGreatDoorShelf
import Derived.Lib.ItoaNum
import Derived.WalkSpells
import Derived.WalkLawsBesides
import Derived.Lib.Mul64
import Derived.Lib.TrailingZeros
import Derived.Deep.OwnRows
import Derived.Laws.CopyOwn
import Derived.BigQuiet
import Derived.Deep.RegionHeld3
import Derived.Deep.LoopGhost
import Derived.Deep.AppendLies
import Derived.Deep.DeepCutAuto
import Derived.Stop.Asserts
import Derived.RowKitTokens
import Derived.Lib.BufferWrite
import Derived.Lib.ConvBytes
import Derived.Test.YtejgpbhionadbaaGreatDoorRows
import Derived.Laws.EntriesVeiled
import Derived.Test.YtejgpbhionadbaaGreatDoorXl41
import Derived.Test.YtejgpbhionadbaaGreatDoorXl44
set_option maxRecDepth 100000
set_option maxHeartbeats 4000000
namespace Go.Proofs.YtejgpbhionadbaaGreatDoor
open Go.RowKit
def anR (g:Nat) (c:Bool) (p:Nat × Bool):Value:=.tuple #[vU ((sgd g c p.1:Nat):Int),vI (if p.2 then 4 else 0)]
theorem eR {s:Int}{g n f T:Nat}{L:Int}(h:Fz s g n f T L) {x:Nat}(hx:x<=T * 2 ^ f) (c:Bool) (w:World):Cs 18 #[.bool c,vU (x:Int),vI s] w (vU ((sgd g c x:Nat):Int)):=by
 rcases h with ⟨rfl,rfl,rfl,rfl,rfl,rfl⟩ | ⟨rfl,rfl,rfl,rfl,rfl,rfl⟩
 . exact kY (by omega) c w
 . exact kZ (by omega) c w
theorem aJK {s:Int}{g n' f T:Nat}{L:Int}(hz:Fz s g n' f T L) {w:World}{vn vd:Value}{X Y:Nat}{e:Int}(c more:Bool) (hn:Big.NatV w vn X) (hd:Big.NatV w vd Y) (fX:Fits 256 X) (fY:Fits 256 Y) (y0:Y ≠ 0):Cb 91 #[vI s,.bool c,vn,vd,vI e,.bool more] w (anR g c (rdA f T L X Y e more)):=by
 have hf:0<f/\f<=52/\2<=T/\T<=2047/\L<=0 /\ -1074<=L:=by rcases hz with ⟨_,_,_,h,h',h''⟩ | ⟨_,_,_,h,h',h''⟩ <;> omega
 obtain ⟨f1,f2,f3,f4,f5,f6⟩:=hf
 have en:=fG (f:=f) (T:=T) (L:=L) (n:=X) (d:=Y) (e:=e) (more:=more) (by omega)
 have bX:=gH fX
 have bY:=gH fY
 obtain ⟨ao,m,cp,rfl,hm0⟩:=tM hn
 by_cases z:X=0 \/ e < -20000
 . have hA:rdA f T L X Y e more=(0,false):=by
    rcases z with z | z
    . unfold rdA;rw [if_pos z]
    . exact sS f1 (by omega) more y0 (dH X) (by omega)
   have SG:=fun W=>eR hz (x:=0) (Nat.zero_le _) c W
   rw [show ((0:Nat):Int)=0 from rfl] at SG
   have eA:anR g c (rdA f T L X Y e more)=.tuple #[vU ((sgd g c 0:Nat):Int),vI 0]:=by rw [hA];rfl
   rw [eA]
   generalize sgd g c 0=y at *
   have zz:m=0 \/ (((m:Int) == 0)=false/\e < -20000):=by
    by_cases q:m=0
    . exact .inl q
    . refine .inr ⟨by simp;omega,?_⟩
      rcases z with z | z
      . exact absurd (hm0.2 z) q
      . exact z
   clear hA eA en hz hn hd fX fY y0 hm0 z bX bY f1 f2 f3 f4 f5 f6
   rcases zz with rfl | ⟨z1,z2⟩
   . go_enter Tryz.func91,Tryz.ntmps91
     go_wp2_with fail
     refine (SG _).mono ?_
     rintro x wz ⟨rfl,rfl⟩
     go_wp2
     go_ret2
     exact ⟨rfl,Below.refl _ _⟩
   . go_enter Tryz.func91,Tryz.ntmps91
     go_wp2_with fail
     refine (SG _).mono ?_
     rintro x wz ⟨rfl,rfl⟩
     go_wp2
     go_ret2
     exact ⟨rfl,Below.refl _ _⟩
 . have x0:X ≠ 0:=fun q=>z (.inl q)
   have m0:((m:Int) == 0)=false:=by
    have:m ≠ 0:=fun q=>x0 (hm0.1 q)
    simp;omega
   have z2:¬ e < -20000:=fun q=>z (.inr q)
   have TI:=fun W=>aAm hz W
   by_cases k:20000<e
   . have hA:rdA f T L X Y e more=(T * 2 ^ f,true):=pK f1 (by omega) more x0 y0 (dH Y) (by omega)
     have SG:=fun W=>eR hz (x:=T * 2 ^ f) (Nat.le_refl _) c W
     have eA:anR g c (rdA f T L X Y e more)=.tuple #[vU ((sgd g c (T * 2 ^ f):Nat):Int),vI 4]:=by rw [hA];rfl
     rw [eA]
     generalize sgd g c (T * 2 ^ f)=y at *
     generalize T * 2 ^ f=t at *
     clear hA eA en hz hn hd fX fY y0 hm0 z bX bY f1 f2 f3 f4 f5 f6 x0
     go_enter Tryz.func91,Tryz.ntmps91
     go_wp2_with fail
     refine (TI _).mono ?_
     rintro x wz ⟨rfl,rfl⟩
     go_wp2_with fail
     refine (SG _).mono ?_
     rintro x wy ⟨rfl,rfl⟩
     go_wp2
     go_ret2
     exact ⟨rfl,Below.refl _ _⟩
   . have TF:=aAl (e:=e) hz more hn hd fX fY x0 y0 (by omega) (by omega)
     have SG:=fun W=>eR hz en.1 c W
     unfold anR
     generalize (rdA f T L X Y e more).1=b at *
     generalize (rdA f T L X Y e more).2=fl at *
     generalize sgd g c b=y at *
     generalize T * 2 ^ f=t at *
     have k2:e<=20000:=by omega
     clear en hz hn hd fX fY y0 hm0 z bX bY f1 f2 f3 f4 f5 f6 x0 k
     cases fl
     . go_enter Tryz.func91,Tryz.ntmps91
       go_wp2_with fail
       refine (TI _).mono ?_
       rintro x wz ⟨rfl,rfl⟩
       go_wp2_with fail
       refine TF.mono ?_
       rintro x wy ⟨rfl,by1⟩
       have BY:Hid (Bl wz wy):=by1
       clear by1
       go_wp2_with fail
       refine (SG _).mono ?_
       rintro x wv ⟨rfl,rfl⟩
       go_wp2
       go_ret2
       exact ⟨rfl,BY.out⟩
     . go_enter Tryz.func91,Tryz.ntmps91
       go_wp2_with fail
       refine (TI _).mono ?_
       rintro x wz ⟨rfl,rfl⟩
       go_wp2_with fail
       refine TF.mono ?_
       rintro x wy ⟨rfl,by1⟩
       have BY:Hid (Bl wz wy):=by1
       clear by1
       go_wp2_with fail
       refine (SG _).mono ?_
       rintro x wv ⟨rfl,rfl⟩
       go_wp2
       go_ret2
       exact ⟨rfl,BY.out⟩
theorem aFj {s:Int}{g n' f T:Nat}{L:Int}(hz:Fz s g n' f T L) (c more:Bool) {m:Nat}{e:Int}(hm:m<18446744073709551616) (p1:¬ e < -1099511627776) (p2:¬ 1099511627776<e) (w:World):Cb 61 #[vI s,.bool c,vU (m:Int),vI e,.bool more] w (anR g c (rdA f T L m 1 e more)):=by
 have HS:=fun W=>gT hz W
 have S1:=fun W=>bD m hm W
 have S2:∀ W,Calls Tryz.prog 92 #[vU 1] W fun e w'=>∃ v,e=.returned v/\Big.NatV w' v 1/\Bl W w':=fun W=>bD 1 (by unfold B;decide) W
 have fm:Fits 256 m:=(Fits.word (n:=1) (by rw [Nat.pow_one];exact hm)).up (by omega)
 have f1:Fits 256 1:=(dZ (s:=0) (k:=1) (by omega)).up (by omega)
 have H0:Hid (Fits 256 m/\Fits 256 1/\Fz s g n' f T L):=⟨fm,f1,hz⟩
 clear fm f1 hz hm
 unfold anR
 go_enter Tryz.func61,Tryz.ntmps61
 go_wp2_with fail
 refine (HS _).mono ?_
 rintro x w3 ⟨rfl,rfl⟩
 go_wp2_with fail
 refine (S1 _).mono ?_
 rintro x w4 ⟨v1,rfl,n1,b4⟩
 have N1:Hid (Big.NatV w4 v1 m/\Bl w3 w4):=⟨n1,b4⟩
 clear n1 b4 S1
 go_wp2_with fail
 refine (S2 _).mono ?_
 rintro x w5 ⟨v2,rfl,n2,b5⟩
 have N2:Hid (Bl w3 w5):=N1.out.2.trans (b5.mono N1.out.2.size)
 have TR:=aJK (e:=e) H0.out.2.2 c more (N1.out.1.below b5) n2 H0.out.1 H0.out.2.1 (by omega)
 unfold anR at TR
 clear n2 b5 S2 N1
 go_wp2_with fail
 refine TR.mono ?_
 rintro x w6 ⟨rfl,b6⟩
 have B6:Hid (Bl w3 w6):=N2.out.trans (b6.mono N2.out.size)
 clear b6 TR N2
 go_wp2
 all_goals go_ret2
 all_goals exact ⟨rfl,B6.out⟩
theorem aJz (w:World):Cs 15 #[vI 32] w (vU 2143289344):=by
 have hor:bits BinOp.or IntKind.u64 2139095040 4194304=2143289344:=by decide
 have H1:=fun W=>aBK W
 have H2:=fun W=>kU W
 go_enter Tryz.func15,Tryz.ntmps15
 go_wp2_with fail
 refine (H1 _).mono ?_
 rintro e w ⟨rfl,rfl⟩
 go_wp2_with fail
 refine (H2 _).mono ?_
 rintro e w ⟨rfl,rfl⟩
 go_wp2
 go_ret
 exact ⟨rfl,rfl⟩
theorem aJA (w:World):Cs 15 #[vI 64] w (vU 9221120237041090560):=by
 have hor:bits BinOp.or IntKind.u64 9218868437227405312 2251799813685248=9221120237041090560:=by decide
 have H1:=fun W=>aBL W
 have H2:=fun W=>kW W
 go_enter Tryz.func15,Tryz.ntmps15
 go_wp2_with fail
 refine (H1 _).mono ?_
 rintro e w ⟨rfl,rfl⟩
 go_wp2_with fail
 refine (H2 _).mono ?_
 rintro e w ⟨rfl,rfl⟩
 go_wp2
 go_ret
 exact ⟨rfl,rfl⟩
theorem aJE {z:Int}{X:Value}{c:Bool}{d:ByteArray}{q:Int}{u:Bool}{m:Nat}{e:Int}{r:Bool}{w:World}(N:∀ W,Cs 15 #[vI z] W X) :
 Cb 35 #[ptV c 4 d q u (m:Int) e r,vI z] w (.tuple #[X,vI 0]):=by
 have B0:Hid (Bl w (w.alloc (.cells #[.bool c,vI 4,.string d,vI q,.bool u,vU (m:Int),vI e,.bool r] 43))):=bz _ _
 have G0:Hid (PtB (w.alloc (.cells #[.bool c,vI 4,.string d,vI q,.bool u,vU (m:Int),vI e,.bool r] 43)) w.heap.size c 4 d q u (m:Int) e r):=PtB.new w _ _ _ _ _ _ _ _ _
 unfold ptV at *
 obtain ⟨_,a0,a1,a2,a3,a4,a5,a6,a7⟩:=G0.out
 go_enter Tryz.func35,Tryz.ntmps35
 go_wp2_with fail
 refine (N _).mono ?_
 rintro o w1 ⟨rfl,e1⟩
 subst e1
 go_wp2
 go_ret2
 exact ⟨rfl,B0.out⟩
theorem aJD {z:Int}{I:Int}{X:Value}{c:Bool}{d:ByteArray}{q:Int}{u:Bool}{m:Nat}{e:Int}{r:Bool}{w:World}(N:∀ W,Cs 17 #[vI z] W (vU I)) (SG:∀ W,Cs 18 #[.bool c,vU I,vI z] W X) :
 Cb 35 #[ptV c 3 d q u (m:Int) e r,vI z] w (.tuple #[X,vI 0]):=by
 have B0:Hid (Bl w (w.alloc (.cells #[.bool c,vI 3,.string d,vI q,.bool u,vU (m:Int),vI e,.bool r] 43))):=bz _ _
 have G0:Hid (PtB (w.alloc (.cells #[.bool c,vI 3,.string d,vI q,.bool u,vU (m:Int),vI e,.bool r] 43)) w.heap.size c 3 d q u (m:Int) e r):=PtB.new w _ _ _ _ _ _ _ _ _
 unfold ptV at *
 obtain ⟨_,a0,a1,a2,a3,a4,a5,a6,a7⟩:=G0.out
 go_enter Tryz.func35,Tryz.ntmps35
 go_wp2
 go_region_held3 (fun w'=>w'.cell? ⟨w.heap.size,0,none⟩=some (.bool c)) (exact a0) (first | (go_at_call 17;refine (N _).mono ?_;rintro o w1 ⟨rfl,rfl⟩) | (go_at_call 18;refine (SG _).mono ?_;rintro o w1 ⟨rfl,rfl⟩))
 all_goals
  go_wp2
  go_ret2
  exact ⟨rfl,by first | exact B0.out | exact B0.out.drew | exact below_drewN B0.out _⟩
theorem aJC {z:Int}{X E:Value}{c:Bool}{d:ByteArray}{q:Int}{u:Bool}{m:Nat}{e:Int}{r:Bool}{w:World}(N:∀ W,Cb 61 #[vI z,.bool c,vU (m:Int),vI e,.bool r] W (.tuple #[X,E])) :
 Cb 35 #[ptV c 2 d q u (m:Int) e r,vI z] w (.tuple #[X,E]):=by
 have B0:Hid (Bl w (w.alloc (.cells #[.bool c,vI 2,.string d,vI q,.bool u,vU (m:Int),vI e,.bool r] 43))):=bz _ _
 have G0:Hid (PtB (w.alloc (.cells #[.bool c,vI 2,.string d,vI q,.bool u,vU (m:Int),vI e,.bool r] 43)) w.heap.size c 2 d q u (m:Int) e r):=PtB.new w _ _ _ _ _ _ _ _ _
 unfold ptV at *
 obtain ⟨_,a0,a1,a2,a3,a4,a5,a6,a7⟩:=G0.out
 go_enter Tryz.func35,Tryz.ntmps35
 go_wp2_with fail
 refine (N _).mono ?_
 rintro o w1 ⟨rfl,b1⟩
 have B1:Hid (Bl w w1):=B0.out.trans (b1.mono B0.out.size)
 clear b1
 go_wp2
 go_ret2
 exact ⟨rfl,B1.out⟩
theorem aJB {z:Int}{I:Int}{X E:Value}{c:Bool}{d:ByteArray}{q:Int}{u:Bool}{m:Nat}{e:Int}{r:Bool}{w:World}(N:∀ W,Cb 62 #[dcV d q u,vI z] W (.tuple #[vU I,E])) (SG:∀ W,Cs 18 #[.bool c,vU I,vI z] W X) :
 Cb 35 #[ptV c 1 d q u (m:Int) e r,vI z] w (.tuple #[X,E]):=by
 unfold dcV at *
 have B0:Hid (Bl w (w.alloc (.cells #[.bool c,vI 1,.string d,vI q,.bool u,vU (m:Int),vI e,.bool r] 43))):=bz _ _
 have G0:Hid (PtB (w.alloc (.cells #[.bool c,vI 1,.string d,vI q,.bool u,vU (m:Int),vI e,.bool r] 43)) w.heap.size c 1 d q u (m:Int) e r):=PtB.new w _ _ _ _ _ _ _ _ _
 unfold ptV at *
 obtain ⟨_,a0,a1,a2,a3,a4,a5,a6,a7⟩:=G0.out
 go_enter Tryz.func35,Tryz.ntmps35
 go_wp2_with fail
 refine (N _).mono ?_
 rintro o w1 ⟨rfl,b1⟩
 have B1:Hid (Bl w w1):=B0.out.trans (b1.mono B0.out.size)
 have G1:Hid (PtB w1 w.heap.size c 1 d q u (m:Int) e r):=G0.out.step b1
 clear b1 a0 a1 a2 a3 a4 a5 a6 a7
 obtain ⟨_,a0,a1,_⟩:=G1.out
 go_wp2_with fail
 refine (SG _).mono ?_
 rintro o w2 ⟨rfl,e2⟩
 subst e2
 go_wp2
 go_ret2
 exact ⟨rfl,B1.out⟩
theorem aLA {z:Int}{g n f T:Nat}{L:Int}(hz:Fz z g n f T L) {P:Pt}(hP:POk P) (w:World) :
 Cb 35 #[spV P,vI z] w (.tuple #[vU (((ofP g f T L P).1:Nat):Int),vI (if (ofP g f T L P).2 then 4 else 0)]):=by
 obtain ⟨f0,T2,hn,ng,g2⟩:=fA hz
 obtain ⟨c,k,dd,q,u,m,e,r⟩:=P
 have hv:spV ⟨c,k,dd,q,u,m,e,r⟩=ptV c k (sB dd) q u (m:Int) e r:=rfl
 rw [hv]
 rcases hP with ⟨rfl,hd⟩ | ⟨rfl,hm,h0,h1,hc⟩ | rfl | ⟨rfl,rfl⟩
 . have xl:=(qT (f:=f) (T:=T) (L:=L) (d:=sB dd) (p:=q) (c:=u) (by omega)).1
   exact aJB (fun W=>aEG hz hd W) (fun W=>eR hz xl c W)
 . exact aJC (fun W=>aFj hz c r hm (by change -1099511627776<=e at h0;omega) (by change e<=1099511627776 at h1;omega) W)
 . exact aJD (fun W=>aAm hz W) (fun W=>eR hz (Nat.le_refl _) c W)
 . refine aJE (fun W=>?_)
   rcases hz with ⟨rfl,_,_,rfl,rfl,_⟩ | ⟨rfl,_,_,rfl,rfl,_⟩
   . exact aJz W
   . exact aJA W
theorem aHv {z:Int}{s:ByteArray}{w:World}(SZ:∀ W,Cs 13 #[vI z] W (.bool false)) :
 Cb 21 #[.string s,vI z] w (.tuple #[vU 0,vI 5]):=by
 go_enter Tryz.func21,Tryz.ntmps21
 go_wp2_with fail
 refine (SZ _).mono ?_
 rintro o w1 ⟨rfl,e1⟩
 subst e1
 go_wp2
 go_ret2
 exact ⟨rfl,Below.refl _ _⟩
theorem aJI {z:Int}{s:ByteArray}{w:World}(SZ:∀ W,Cs 13 #[vI z] W (.bool true))
 (SC:∀ W,Cb 12 #[.string s] W (.tuple #[.agg #[.bool false,vI 0,.string ⟨#[]⟩,vI 0,.bool false,vU 0,vI 0,.bool false],vI 3])) :
 Cb 21 #[.string s,vI z] w (.tuple #[vU 0,vI 3]):=by
 go_enter Tryz.func21,Tryz.ntmps21
 go_wp2_with fail
 refine (SZ _).mono ?_
 rintro o w1 ⟨rfl,e1⟩
 subst e1
 go_wp2_with fail
 refine (SC _).mono ?_
 rintro o w2 ⟨rfl,b2⟩
 have B2:Hid (Bl w1 (w2.alloc (.cells #[.bool false,vI 0,.string ⟨#[]⟩,vI 0,.bool false,vU 0,vI 0,.bool false] 43))):=b2.alloc b2.size _
 clear b2
 go_wp2
 go_ret2
 exact ⟨rfl,B2.out⟩
theorem aHw {z:Int}{s:ByteArray}{w:World}{X E:Value}{c:Bool}{kd:Int}{d:ByteArray}{q:Int}{u:Bool}{m:Nat}{e:Int}{r:Bool}(SZ:∀ W,Cs 13 #[vI z] W (.bool true))
 (SC:∀ W,Cb 12 #[.string s] W (.tuple #[ptV c kd d q u (m:Int) e r,vI 0]))
 (VL:∀ W,Cb 35 #[ptV c kd d q u (m:Int) e r,vI z] W (.tuple #[X,E])) :
 Cb 21 #[.string s,vI z] w (.tuple #[X,E]):=by
 unfold ptV at *
 go_enter Tryz.func21,Tryz.ntmps21
 go_wp2_with fail
 refine (SZ _).mono ?_
 rintro o w1 ⟨rfl,e1⟩
 subst e1
 go_wp2_with fail
 refine (SC _).mono ?_
 rintro o w2 ⟨rfl,b2⟩
 have B2:Hid (Bl w1 (w2.alloc (.cells #[.bool c,vI kd,.string d,vI q,.bool u,vU (m:Int),vI e,.bool r] 43))):=b2.alloc b2.size _
 clear b2
 go_wp2_with fail
 refine (VL _).mono ?_
 rintro o w3 ⟨rfl,b3⟩
 have B3:Hid (Bl w1 w3):=B2.out.trans (b3.mono B2.out.size)
 clear b3
 go_wp2
 go_ret2
 exact ⟨rfl,B3.out⟩
theorem mT        {z : Int} {g n f T : Nat} {L : Int} (hz : Fz z g n f T L) {l : List UInt8} (hl : l.length ≤ 1048576) (w : World) :
    Calls Tryz.prog 21 #[.string (sB l), .int .i64 z] w fun o w' => o = .returned (.tuple #[.int .u64 (((prA g f T L l).1 : Nat) : Int), .int .i64 (prA g f T L l).2]) ∧ Below w.heap.size w w' := by
  have SC := fun W => aFi       l (by omega) W
  unfold prA
  cases h : scn l with
  | none =>
    rw [h] at SC
    exact aJI     (fun W => gT      hz W) SC
  | some P =>
    rw [h] at SC
    exact aHw      (fun W => gT      hz W) SC (fun W => aLA    hz (aFl    h) W)
structure SlS (w:World) (ao:Option Addr) (n c b o:Nat) (f:Nat -> List UInt8):Prop where
 le:n<=c
 cap:c<=maxLen
 addr:0<n -> ao=some ⟨b,o,none⟩
 blk:0<n -> b<w.heap.size
 cell:∀ i,i<n -> w.cell? ⟨b,o+i,none⟩=some (.string (sB (f i)))
 len:∀ i,i<n -> (f i).length<=1048576
 many:n<=1048576
theorem SlS.below {w w':World}{ao:Option Addr}{n c b o:Nat}{f:Nat -> List UInt8}(S:SlS w ao n c b o f) (hb:Bl w w'):SlS w' ao n c b o f :=
 ⟨S.le,S.cap,S.addr,fun h=>Nat.lt_of_lt_of_le (S.blk h) hb.size,fun i hi=>(hb.cell (p:=⟨b,o+i,none⟩) (S.blk (by omega))).trans (S.cell i hi),S.len,S.many⟩
def wdC (xs:List Nat):List Value:=xs.map fun (x:Nat)=>vU (x:Int)
structure RW (w wr:World) (v:Value) (xs:List Nat):Prop where
 own:wr.ownsRow w.heap.size 31 1 v xs.length (wdC xs)
 bel:Bl w wr
theorem aAF:Tryz.prog.underlying 23=some (.slice 31):=by kernel_rfl
theorem sK:(Tryz.prog.info? 31).map (fun i=>(i.zero,i.size,i.bytes))=some (some (vU 0),1,8):=by kernel_rfl
theorem RW.app {w wr w3:World}{v v':Value}{l m:List Nat}{o:Obj}(h:RW w wr v l) (ho:w3.ownsRow w.heap.size 31 1 v' (l.length+m.length) (wdC l ++ wdC m)) (hg:(wr.alloc o).grownBy w3 v.ownBlock):RW w w3 v' (l ++ m):=by
 have hs:=h.bel.size
 refine ⟨?_,(h.bel.alloc hs _).grown hg (by rw [World.size_alloc];omega) (fun q hq=>(h.own.lt q hq).1)⟩
 rw [List.length_append,show wdC (l ++ m)=wdC l ++ wdC m from List.map_append]
 exact ho
theorem RW.step {w wr w3:World}{v:Value}{l:List Nat}(h:RW w wr v l) (b:Bl wr w3):RW w w3 v l:=by
 refine ⟨?_,h.bel.trans (b.mono h.bel.size)⟩
 obtain ⟨h1,h2⟩:=h.own
 refine ⟨h1,?_⟩
 rcases h2 with h2 | ⟨g,cap,cur,hv,hg,hh,r⟩
 . exact .inl h2
 . refine .inr ⟨g,cap,cur,hv,hg,?_,r⟩
   have lt:g<wr.heap.size:=(Array.getElem?_eq_some_iff.1 hh).1
   rw [b.block g lt]
   exact hh
theorem RW.len {w wr:World}{v:Value}{l:List Nat}(h:RW w wr v l):∃ ao c,v=.slice ao l.length c:=by
 rcases h.own.2 with ⟨rfl,h0⟩ | ⟨g,cap,cur,rfl,_⟩
 . exact ⟨none,0,by rw [h0]⟩
 . exact ⟨_,_,rfl⟩
theorem RW.at {w wr:World}{v:Value}{l:List Nat}(h:RW w wr v l) (hl:0<l.length):∃ g c,v=.slice (some ⟨g,0,none⟩) l.length c/\g<wr.heap.size/\∀ i (hi:i<l.length),wr.cell? ⟨g,0+i,none⟩=some (vU ((l[i]'hi:Nat):Int)):=by
 obtain ⟨g,cap,e,_,lt⟩:=h.own.form hl
 refine ⟨g,cap,e,lt,fun i hi=>?_⟩
 have q:=h.own.cells (g:=g) (by rw [e];rfl) i (vU ((l[i]'hi:Nat):Int)) (by unfold wdC;simp [hi])
 rw [jY] at q
 exact q
theorem rC {X:Nat -> Nat}(i:Nat):(List.range (i+1)).map X=(List.range i).map X ++ [X i]:=by
 rw [List.range_succ,List.map_append]
 rfl
theorem aGq (m:Int) (w:World):(binOp .eql 25 .nilIface (.iface 63 (vI m))).run Tryz.prog w=.ok (.bool false) w:=by kernel_rfl
theorem aJ8 (m:Int) (w:World):Cs 23 #[.nilIface,.iface 63 (vI m)] w (.bool false):=by
 have heq:=fun W=>aGq m W
 go_enter Tryz.func23,Tryz.ntmps23
 go_wp2
 go_ret
 exact ⟨rfl,rfl⟩
theorem pH {s:ByteArray}{z:Int}{X:Nat}{K:Int}{w:World}(hT:Tab w)
 (PA:∀ W,Tab W -> Calls Tryz.prog 11 #[.string s,vI z,.pointer none] W fun o w'=>∃ v,o=.returned (.tuple #[vU (X:Int),v])/\ErV w' K aF s v/\Bl W w') :
 Calls Tryz.prog 24 #[.string s,vI z] w fun o w'=>∃ v,o=.returned (.tuple #[vU (X:Int),v])/\ErV w' (if K=4 then 0 else K) aF s v/\Bl w w':=by
 have P1:=PA w hT
 clear hT PA
 by_cases k4:K=4
 . subst k4
   rw [if_pos rfl]
   go_enter Tryz.func24,Tryz.ntmps24
   go_wp2_with fail
   refine P1.mono ?_
   rintro o w1 ⟨v,rfl,e1,b1⟩
   have B1:Hid (Bl w w1):=b1
   clear b1 P1
   rcases e1 with ⟨h,_⟩ | ⟨k0,h⟩
   . exact absurd h (by decide)
   have I:=aBW 4 h
   rw [show ((4:Int) == 4)=true from rfl] at I
   obtain ⟨T0,y0,rfl⟩:=Ch.iface h
   clear h k0
   go_wp2_with fail
   refine I.mono ?_
   rintro o w2 ⟨rfl,e2⟩
   subst e2
   go_wp2
   go_ret2
   exact ⟨_,rfl,.inl ⟨rfl,rfl⟩,B1.out⟩
 . rw [if_neg k4]
   have K4:Hid (K ≠ 4):=k4
   clear k4
   go_enter Tryz.func24,Tryz.ntmps24
   go_wp2_with fail
   refine P1.mono ?_
   rintro o w1 ⟨v,rfl,e1,b1⟩
   have B1:Hid (Bl w w1):=b1
   have E1:Hid (ErV w1 K aF s v):=e1
   clear b1 P1
   rcases e1 with ⟨_,rfl⟩ | ⟨_,h⟩
   . have I:=fun W=>aJ8 4 W
     go_wp2_with fail
     refine (I _).mono ?_
     rintro o w2 ⟨rfl,e2⟩
     subst e2
     go_wp2
     go_ret2
     exact ⟨_,rfl,E1.out,B1.out⟩
   . have I:=aBW 4 h
     rw [show (K == 4)=false from beq_eq_false_iff_ne.mpr K4.out] at I
     obtain ⟨T0,y0,rfl⟩:=Ch.iface h
     clear h
     go_wp2_with fail
     refine I.mono ?_
     rintro o w2 ⟨rfl,e2⟩
     subst e2
     go_wp2
     go_ret2
     exact ⟨_,rfl,E1.out,B1.out⟩
theorem aJu {g a b:Nat}(_:0<g) (ha:a<2 * g) (hb:b<2 * g) (h:a ≠ b):(iZ (rk g a) (rk g b) == 0)=decide (mg g a=0/\mg g b=0):=by
 have e:iZ (rk g a) (rk g b)=0 ↔ rk g a=rk g b:=by
  unfold iZ
  split
  . constructor
    . intro h;exact absurd h (by decide)
    . intro h;omega
  . split
    . constructor
      . intro h;exact absurd h (by decide)
      . intro h;omega
    . constructor
      . intro _;omega
      . intro _;rfl
 have pa:mg g a+(if ng g a then g else 0)=a:=by
  unfold mg ng
  by_cases q:g<=a
  . rw [decide_eq_true q,if_pos rfl]
    have:a % g=a - g:=by rw [Nat.mod_eq_sub_mod q,Nat.mod_eq_of_lt (by omega)]
    omega
  . rw [decide_eq_false q,if_neg (by decide),Nat.mod_eq_of_lt (by omega)]
    rfl
 have pb:mg g b+(if ng g b then g else 0)=b:=by
  unfold mg ng
  by_cases q:g<=b
  . rw [decide_eq_true q,if_pos rfl]
    have:b % g=b - g:=by rw [Nat.mod_eq_sub_mod q,Nat.mod_eq_of_lt (by omega)]
    omega
  . rw [decide_eq_false q,if_neg (by decide),Nat.mod_eq_of_lt (by omega)]
    rfl
 have k:rk g a=rk g b ↔ (mg g a=0/\mg g b=0):=by
  unfold rk
  generalize mg g a=x at *
  generalize mg g b=y at *
  cases ha':ng g a <;> cases hb':ng g b <;> simp only [ha',hb',Bool.false_eq_true,if_false,if_true] at pa pb ⊢ <;> constructor <;> intro q <;> omega
 rw [Bool.eq_iff_iff,beq_iff_eq,decide_eq_true_iff,e,k]
theorem aBg {n m:Nat}(h:cl n m=4):m ≠ 0:=by
 intro q
 subst q
 exact absurd h (by unfold cl;rw [if_pos rfl];decide)
theorem aGf {z:Int}{g n f T:Nat}{L:Int}(hz:Fz z g n f T L) {a b:Nat}(ha:a<2 * g) (hb:b<2 * g):∃ r:Int,(∀ W,Cb 25 #[vU (a:Int),vU (b:Int),vI z] W (.tuple #[vI r,.nilIface]))/\(a ≠ b -> (r == 0)=decide (mg g a=0/\mg g b=0)):=by
 obtain ⟨_,_,_,g0⟩:=dA hz
 by_cases k1:cl n (mg g a)=4
 . refine ⟨2,fun W=>?_,fun _=>?_⟩
   . rcases hz with ⟨rfl,rfl,rfl,_⟩ | ⟨rfl,rfl,rfl,_⟩
     . exact qA ha hb k1 W
     . exact qB ha hb k1 W
   . rw [decide_eq_false (fun q=>aBg k1 q.1)]
     rfl
 . have q1:(cl n (mg g a) == 4)=false:=beq_eq_false_iff_ne.mpr k1
   by_cases k2:cl n (mg g b)=4
   . refine ⟨2,fun W=>?_,fun _=>?_⟩
     . rcases hz with ⟨rfl,rfl,rfl,_⟩ | ⟨rfl,rfl,rfl,_⟩
       . exact qC ha hb q1 k2 W
       . exact qD ha hb q1 k2 W
     . rw [decide_eq_false (fun q=>aBg k2 q.2)]
       rfl
   . have q2:(cl n (mg g b) == 4)=false:=beq_eq_false_iff_ne.mpr k2
     refine ⟨iZ (rk g a) (rk g b),fun W=>?_,fun h=>aJu g0 ha hb h⟩
     rcases hz with ⟨rfl,rfl,rfl,_⟩ | ⟨rfl,rfl,rfl,_⟩
     . exact vJ ha hb q1 q2 W
     . exact vK ha hb q1 q2 W
theorem aI3 {n:Nat}(hn:n<=1048576) (w:World):(Instr.makeSlice 23 (vI 0) (vI (n:Int))).run Tryz.prog w=.ok (.slice (some ⟨w.heap.size,0,none⟩) 0 n) (w.alloc (.cells (madeCells #[vU 0] n) 31)):=by
 obtain ⟨i,hi,hz0,hz1,hz2⟩:=info_parts sK
 have q:=run_make (P:=Tryz.prog) w 23 31 i (vU 0) aAF hi hz0 .i64 .i64 0 (n:Int) (by omega) (by omega) (by rw [hz2];omega) (by omega)
 simp only [Int.toNat_zero,Int.toNat_natCast,hz1,Nat.mul_one] at q
 exact q
def aJ5 (w w':World) (n:Nat) (X:Nat -> Nat) (K:Nat -> Int) (V:Value) (m:Nat):Prop :=
 (m=n/\(∀ j,j<n -> K j=0)/\RW w w' V ((List.range n).map X)) \/ (m<n/\V=.slice none 0 0/\(∀ j,j<m -> K j=0)/\K m ≠ 0)
theorem aIe {z:Int}(h:Sn z) {ao:Option Addr}{n c:Nat}(w:World):Calls Tryz.prog 5 #[.slice ao n c,vI z,.pointer none] w fun o w'=>∃ v,o=.returned (.tuple #[.slice none 0 0,vI 0,v])/\ErV w' 5 aF ⟨#[]⟩ v/\Bl w w':=by
 have CK:=fun W=>xL h 0 W
 have WR:=fun W=>iO (c:=aF) (t:=⟨#[]⟩) (by decide) (by decide) 5 W
 unfold aF at *
 go_enter Tryz.func5,Tryz.ntmps5
 go_wp2_with fail
 refine (CK _).mono ?_
 rintro o w1 ⟨rfl,b1⟩
 have B1:Hid (Bl w w1):=b1
 clear b1
 go_wp2_with fail
 refine (WR _).mono ?_
 rintro o w2 ⟨v,rfl,h2,b2⟩
 have B2:Hid (Bl w w2):=B1.out.trans (b2.mono B1.out.size)
 have H2:Hid (Wr w2 ⟨#[80,97,114,115,101]⟩ ⟨#[]⟩ 5 v):=h2
 clear b2 h2
 go_wp2
 go_ret3
 exact ⟨v,rfl,.inr ⟨by decide,H2.out⟩,B2.out⟩
theorem aKe {z:Int}{ao:Option Addr}{n c b o:Nat}{f:Nat -> List UInt8}{X:Nat -> Nat}{K:Nat -> Int}{w:World}(hT:Tab w) (S:SlS w ao n c b o f)
 (CK:∀ W,Cb 19 #[vU 0,vI z] W .nilIface)
 (PX:∀ i,i<n -> ∀ W,Tab W -> Calls Tryz.prog 11 #[.string (sB (f i)),vI z,.pointer none] W fun o w'=>∃ v,o=.returned (.tuple #[vU ((X i:Nat):Int),v])/\ErV w' (K i) aF (sB (f i)) v/\Bl W w') :
 Calls Tryz.prog 5 #[.slice ao n c,vI z,.pointer none] w fun o w'=>∃ V m E,o=.returned (.tuple #[V,vI ((m:Nat):Int),E])/\aJ5 w w' n X K V m/\ErV w' (if m<n then K m else 0) aF (sB (f m)) E/\Bl w w':=by
 obtain ⟨ii,hi,hz0,hz1,hz2⟩:=info_parts sK
 have HS:Hid (SlS w ao n c b o f):=S
 have HT:Hid (Tab w):=hT
 have hn:n<=1048576:=S.many
 have hmk:=fun W=>aI3 hn W
 have HP:Hid (∀ i,i<n -> _):=PX
 clear S hT PX
 go_enter Tryz.func5,Tryz.ntmps5
 go_wp2_with fail
 refine (CK _).mono ?_
 rintro o1 w1 ⟨rfl,b1⟩
 have B1:Hid (Bl w w1):=b1
 clear b1 CK
 have R1:Hid (RW w (w1.alloc (.cells (madeCells #[vU 0] n) 31)) (.slice (some ⟨w1.heap.size,0,none⟩) 0 n) []):=⟨World.ownsRow_made w1 _ n B1.out.size (by unfold maxLen;omega) (by rw [size_madeCells,Nat.mul_one]),B1.out.alloc B1.out.size _⟩
 go_wp2
 go_loopw [10,26] (fun fv iv wr=>∃ i:Nat,i<=n/\iv=vI (i:Int)/\Hid (RW w wr fv ((List.range i).map X)/\∀ j,j<i -> K j=0)) (fun _ iv _=>n - (intOf iv).toNat)
 case atStart=>exact ⟨0,Nat.zero_le _,rfl,R1.out,fun j h=>by omega⟩
 case round =>
  clear R1 hmk
  obtain ⟨i,hin,rfl,HI⟩:=hrel
  by_cases c1:i<n
  . obtain rfl:=HS.out.addr (by omega)
    have hc:=(HS.out.below HI.out.1.bel).cell i c1
    have i1:(i:Int)<(n:Int):=by omega
    have i0:(0:Int)<=(i:Int):=by omega
    have PI:=HP.out i c1 _ (HT.out.next HI.out.1.bel)
    obtain ⟨x,hx⟩:∃ x,X i=x:=⟨_,rfl⟩
    rw [hx] at PI
    go_wp2_with fail
    refine PI.mono ?_
    rintro o2 w2 ⟨v,rfl,e2,b2⟩
    have R2:Hid (RW w w2 _ ((List.range i).map X)):=HI.out.1.step b2
    clear b2 hc PI
    rcases e2 with ⟨k0,rfl⟩ | ⟨k0,h⟩
    . have HK:Hid (∀ j,j<i+1 -> K j=0):=fun j hj=>by
       by_cases q:j=i
       . rw [q];exact k0
       . exact HI.out.2 j (by omega)
      clear k0
      go_wp2_with (first | (at_builtin;refine wpList_append_own _ rfl _ _ 23 rfl w.heap.size 31 ii (vU 0) 1 8 aAF hi hz0 hz1 hz2 rfl (by decide) _ _ _ rfl (R2.out.own.alloc _) ⟨w2.heap.size,0,none⟩ 1 1 [vU (x:Int)] rfl rfl (World.news_of_block (cs:=#[vU (x:Int)]) (t:=31) (fr:=(0,0)) (heap_alloc_new _ _)) (by simp [Value.oneCell']) (by rw [List.length_map,List.length_range];unfold maxLen;omega) (by rw [List.length_map,List.length_range];omega) (by have:=R2.out.bel.size;simp;omega) ?_) | go_in)
      intro v5 w5 ho5 hg5 _
      have R5:Hid (RW w w5 v5 ((List.range (i+1)).map X)):=by
       show RW _ _ _ _
       rw [rC,hx]
       exact R2.out.app (m:=[x]) (by rw [List.length_map,List.length_range];exact ho5) hg5
      clear ho5 hg5
      go_wp2
      go_roundw
      case rel=>exact ⟨i+1,by omega,by go_num,R5.out,HK.out⟩
      case measure=>simp [intOf];omega
    . obtain ⟨T0,y0,rfl⟩:=Ch.iface h
      have HH:Hid (Wr w2 aF (sB (f i)) (K i) (.iface T0 y0)/\K i ≠ 0):=⟨h,k0⟩
      clear h k0
      go_wp2
      go_ret3
      exact ⟨_,i,_,rfl,.inr ⟨c1,rfl,HI.out.2,HH.out.2⟩,by rw [if_pos c1];exact .inr ⟨HH.out.2,HH.out.1⟩,R2.out.bel⟩
  . obtain rfl:i=n:=by omega
    have i1:¬ (i:Int)<(i:Int):=by omega
    obtain ⟨ao',c',hv⟩:=HI.out.1.len
    rw [List.length_map,List.length_range] at hv
    subst hv
    go_wp2
    go_ret3
    exact ⟨_,i,_,rfl,.inl ⟨rfl,HI.out.2,HI.out.1⟩,by rw [if_neg (by omega)];exact .inl ⟨rfl,rfl⟩,HI.out.1.bel⟩
theorem aHm {z:Int}{ao:Option Addr}{n c:Nat}{w:World}(SZ:∀ W,Cs 13 #[vI z] W (.bool false)):Cb 6 #[.slice ao n c,vI z] w (.tuple #[.slice none 0 0,vI 0,vI 5]):=by
 go_enter Tryz.func6,Tryz.ntmps6
 go_wp2_with fail
 refine (SZ _).mono ?_
 rintro o w1 ⟨rfl,e1⟩
 subst e1
 go_wp2
 go_ret3
 exact ⟨rfl,Below.refl _ _⟩
theorem aJo {z:Int}{ao:Option Addr}{n c b o:Nat}{f:Nat -> List UInt8}{X:Nat -> Nat}{K:Nat -> Int}{w:World}(S:SlS w ao n c b o f)
 (SZ:∀ W,Cs 13 #[vI z] W (.bool true))
 (PX:∀ i,i<n -> ∀ W,Cb 21 #[.string (sB (f i)),vI z] W (.tuple #[vU ((X i:Nat):Int),vI (K i)])) :
 Calls Tryz.prog 6 #[.slice ao n c,vI z] w fun o w'=>∃ V m,o=.returned (.tuple #[V,vI ((m:Nat):Int),vI (if m<n then K m else 0)])/\aJ5 w w' n X K V m/\Bl w w':=by
 obtain ⟨ii,hi,hz0,hz1,hz2⟩:=info_parts sK
 have HS:Hid (SlS w ao n c b o f):=S
 have hn:n<=1048576:=S.many
 have HP:Hid (∀ i,i<n -> _):=PX
 have R1:Hid (RW w w (.slice none 0 0) []):=⟨World.ownsRow_nil _ _ _ _,Below.refl _ _⟩
 clear S PX
 go_enter Tryz.func6,Tryz.ntmps6
 go_wp2_with fail
 refine (SZ _).mono ?_
 rintro o1 w1 ⟨rfl,e1⟩
 subst e1
 clear SZ
 go_wp2
 go_loopw [7,8] (fun fv iv wr=>∃ i:Nat,i<=n/\iv=vI (i:Int)/\Hid (RW w1 wr fv ((List.range i).map X)/\∀ j,j<i -> K j=0)) (fun _ iv _=>n - (intOf iv).toNat)
 case atStart=>exact ⟨0,Nat.zero_le _,rfl,R1.out,fun j h=>by omega⟩
 case round =>
  clear R1
  obtain ⟨i,hin,rfl,HI⟩:=hrel
  by_cases c1:i<n
  . obtain rfl:=HS.out.addr (by omega)
    have hc:=(HS.out.below HI.out.1.bel).cell i c1
    have i1:(i:Int)<(n:Int):=by omega
    have i0:(0:Int)<=(i:Int):=by omega
    have PI:=fun W=>HP.out i c1 W
    obtain ⟨x,hx⟩:∃ x,X i=x:=⟨_,rfl⟩
    obtain ⟨k,hk⟩:∃ k,K i=k:=⟨_,rfl⟩
    rw [hx,hk] at PI
    go_wp2_with fail
    refine (PI _).mono ?_
    rintro o2 w2 ⟨rfl,b2⟩
    have R2:Hid (RW w1 w2 _ ((List.range i).map X)):=HI.out.1.step b2
    clear b2 hc PI
    by_cases k0:k=0
    . have HK:Hid (∀ j,j<i+1 -> K j=0):=fun j hj=>by
       by_cases q:j=i
       . rw [q,hk];exact k0
       . exact HI.out.2 j (by omega)
      subst k0
      clear hk
      go_wp2_with (first | (at_builtin;refine wpList_append_own _ rfl _ _ 23 rfl w1.heap.size 31 ii (vU 0) 1 8 aAF hi hz0 hz1 hz2 rfl (by decide) _ _ _ rfl (R2.out.own.alloc _) ⟨w2.heap.size,0,none⟩ 1 1 [vU (x:Int)] rfl rfl (World.news_of_block (cs:=#[vU (x:Int)]) (t:=31) (fr:=(0,0)) (heap_alloc_new _ _)) (by simp [Value.oneCell']) (by rw [List.length_map,List.length_range];unfold maxLen;omega) (by rw [List.length_map,List.length_range];omega) (by have:=R2.out.bel.size;simp;omega) ?_) | go_in)
      intro v5 w5 ho5 hg5 _
      have R5:Hid (RW w1 w5 v5 ((List.range (i+1)).map X)):=by
       show RW _ _ _ _
       rw [rC,hx]
       exact R2.out.app (m:=[x]) (by rw [List.length_map,List.length_range];exact ho5) hg5
      clear ho5 hg5
      go_wp2
      go_roundw
      case rel=>exact ⟨i+1,by omega,by go_num,R5.out,HK.out⟩
      case measure=>simp [intOf];omega
    . have kq:(k == 0)=false:=beq_eq_false_iff_ne.mpr k0
      have HH:Hid (K i=k/\k ≠ 0):=⟨hk,k0⟩
      clear hk k0
      go_wp2
      go_ret3
      exact ⟨_,i,by rw [if_pos c1,HH.out.1];rfl,.inr ⟨c1,rfl,HI.out.2,by rw [HH.out.1];exact HH.out.2⟩,R2.out.bel⟩
  . obtain rfl:i=n:=by omega
    have i1:¬ (i:Int)<(i:Int):=by omega
    obtain ⟨ao',c',hv⟩:=HI.out.1.len
    rw [List.length_map,List.length_range] at hv
    subst hv
    go_wp2
    go_ret3
    exact ⟨_,i,by rw [if_neg (by omega)];rfl,.inl ⟨rfl,HI.out.2,HI.out.1⟩,HI.out.1.bel⟩
theorem rG {a b:ByteArray}{z:Int}{X:Nat}{K:Int}(k0:K ≠ 0) {w:World}(hT:Tab w)
 (OA:∀ W,Tab W -> Calls Tryz.prog 24 #[.string a,vI z] W fun o w'=>∃ v,o=.returned (.tuple #[vU (X:Int),v])/\ErV w' K aF a v/\Bl W w') :
 Calls Tryz.prog 8 #[.string a,.string b,vI z] w fun o w'=>∃ v,o=.returned (.tuple #[.bool false,v])/\ErV w' K aF a v/\Bl w w':=by
 have HT:Hid (Tab w):=hT
 have HK:Hid (K ≠ 0):=k0
 clear hT k0
 go_enter Tryz.func8,Tryz.ntmps8
 go_wp2_with fail
 refine (OA _ HT.out).mono ?_
 rintro o w1 ⟨v1,rfl,e1,b1⟩
 have B1:Hid (Bl w w1):=b1
 have E1:Hid (ErV w1 K aF a v1):=e1
 obtain ⟨T0,y0,rfl⟩:∃ T y,v1=.iface T y:=by
  rcases e1 with ⟨h,_⟩ | ⟨_,h⟩
  . exact absurd h HK.out
  . exact Ch.iface h
 clear e1 b1
 go_wp2
 go_ret2
 exact ⟨_,rfl,E1.out,B1.out⟩
theorem aA4 {a b:ByteArray}{z:Int}{X Y:Nat}{K:Int}(k0:K ≠ 0) {w:World}(hT:Tab w)
 (OA:∀ W,Tab W -> Calls Tryz.prog 24 #[.string a,vI z] W fun o w'=>∃ v,o=.returned (.tuple #[vU (X:Int),v])/\ErV w' 0 aF a v/\Bl W w')
 (OB:∀ W,Tab W -> Calls Tryz.prog 24 #[.string b,vI z] W fun o w'=>∃ v,o=.returned (.tuple #[vU (Y:Int),v])/\ErV w' K aF b v/\Bl W w') :
 Calls Tryz.prog 8 #[.string a,.string b,vI z] w fun o w'=>∃ v,o=.returned (.tuple #[.bool false,v])/\ErV w' K aF b v/\Bl w w':=by
 have HT:Hid (Tab w):=hT
 have HK:Hid (K ≠ 0):=k0
 clear hT k0
 go_enter Tryz.func8,Tryz.ntmps8
 go_wp2_with fail
 refine (OA _ HT.out).mono ?_
 rintro o w1 ⟨v1,rfl,e1,b1⟩
 have B1:Hid (Bl w w1):=b1
 obtain rfl:=e1.nil
 clear e1 b1
 go_wp2_with fail
 refine (OB _ (HT.out.next B1.out)).mono ?_
 rintro o w2 ⟨v2,rfl,e2,b2⟩
 have B2:Hid (Bl w w2):=B1.out.trans (b2.mono B1.out.size)
 have E2:Hid (ErV w2 K aF b v2):=e2
 obtain ⟨T0,y0,rfl⟩:∃ T y,v2=.iface T y:=by
  rcases e2 with ⟨h,_⟩ | ⟨_,h⟩
  . exact absurd h HK.out
  . exact Ch.iface h
 clear e2 b2
 go_wp2
 go_ret2
 exact ⟨_,rfl,E2.out,B2.out⟩
theorem aJL {a b:ByteArray}{z:Int}{X:Nat}{r:Int}{w:World}(hT:Tab w)
 (OA:∀ W,Tab W -> Calls Tryz.prog 24 #[.string a,vI z] W fun o w'=>∃ v,o=.returned (.tuple #[vU (X:Int),v])/\ErV w' 0 aF a v/\Bl W w')
 (OB:∀ W,Tab W -> Calls Tryz.prog 24 #[.string b,vI z] W fun o w'=>∃ v,o=.returned (.tuple #[vU (X:Int),v])/\ErV w' 0 aF b v/\Bl W w')
 (CM:∀ W,Cb 25 #[vU (X:Int),vU (X:Int),vI z] W (.tuple #[vI r,.nilIface])) :
 Cb 8 #[.string a,.string b,vI z] w (.tuple #[.bool true,.nilIface]):=by
 have HT:Hid (Tab w):=hT
 have q:((X:Int) == (X:Int))=true:=beq_self_eq_true _
 clear hT
 go_enter Tryz.func8,Tryz.ntmps8
 go_wp2_with fail
 refine (OA _ HT.out).mono ?_
 rintro o w1 ⟨v1,rfl,e1,b1⟩
 have B1:Hid (Bl w w1):=b1
 obtain rfl:=e1.nil
 clear e1 b1
 go_wp2_with fail
 refine (OB _ (HT.out.next B1.out)).mono ?_
 rintro o w2 ⟨v2,rfl,e2,b2⟩
 have B2:Hid (Bl w w2):=B1.out.trans (b2.mono B1.out.size)
 obtain rfl:=e2.nil
 clear e2 b2
 go_wp2_with fail
 refine (CM _).mono ?_
 rintro o w3 ⟨rfl,b3⟩
 have B3:Hid (Bl w w3):=B2.out.trans (b3.mono B2.out.size)
 clear b3
 go_wp2
 go_ret2
 exact ⟨rfl,B3.out⟩
theorem aJM {a b:ByteArray}{z:Int}{X Y:Nat}{r:Int}(ne:X ≠ Y) {w:World}(hT:Tab w)
 (OA:∀ W,Tab W -> Calls Tryz.prog 24 #[.string a,vI z] W fun o w'=>∃ v,o=.returned (.tuple #[vU (X:Int),v])/\ErV w' 0 aF a v/\Bl W w')
 (OB:∀ W,Tab W -> Calls Tryz.prog 24 #[.string b,vI z] W fun o w'=>∃ v,o=.returned (.tuple #[vU (Y:Int),v])/\ErV w' 0 aF b v/\Bl W w')
 (CM:∀ W,Cb 25 #[vU (X:Int),vU (Y:Int),vI z] W (.tuple #[vI r,.nilIface])) :
 Cb 8 #[.string a,.string b,vI z] w (.tuple #[.bool (r == 0),.nilIface]):=by
 have HT:Hid (Tab w):=hT
 have q:((X:Int) == (Y:Int))=false:=beq_eq_false_iff_ne.mpr (by omega)
 clear hT ne
 go_enter Tryz.func8,Tryz.ntmps8
 go_wp2_with fail
 refine (OA _ HT.out).mono ?_
 rintro o w1 ⟨v1,rfl,e1,b1⟩
 have B1:Hid (Bl w w1):=b1
 obtain rfl:=e1.nil
 clear e1 b1
 go_wp2_with fail
 refine (OB _ (HT.out.next B1.out)).mono ?_
 rintro o w2 ⟨v2,rfl,e2,b2⟩
 have B2:Hid (Bl w w2):=B1.out.trans (b2.mono B1.out.size)
 obtain rfl:=e2.nil
 clear e2 b2
 go_wp2_with fail
 refine (CM _).mono ?_
 rintro o w3 ⟨rfl,b3⟩
 have B3:Hid (Bl w w3):=B2.out.trans (b3.mono B2.out.size)
 clear b3
 go_wp2
 go_ret2
 exact ⟨rfl,B3.out⟩
theorem oT {a b:ByteArray}{z:Int}{X:Nat}{K:Int}(k0:K ≠ 0) (k4:K ≠ 4) {w:World}
 (RA:∀ W,Cb 21 #[.string a,vI z] W (.tuple #[vU (X:Int),vI K])) :
 Cb 9 #[.string a,.string b,vI z] w (.tuple #[.bool false,vI 1,vI K]):=by
 have q0:(K == 0)=false:=beq_eq_false_iff_ne.mpr k0
 have q4:(K == 4)=false:=beq_eq_false_iff_ne.mpr k4
 have q0':(K != 0)=true:=by rw [bne,q0];rfl
 have q4':(K != 4)=true:=by rw [bne,q4];rfl
 clear k0 k4
 go_enter Tryz.func9,Tryz.ntmps9
 go_wp2_with fail
 refine (RA _).mono ?_
 rintro o w1 ⟨rfl,b1⟩
 have B1:Hid (Bl w w1):=b1
 clear b1
 go_wp2
 go_ret3
 exact ⟨rfl,B1.out⟩
theorem vZ {a b:ByteArray}{z:Int}{X Y:Nat}{K:Int}(k0:K ≠ 0) (k4:K ≠ 4) {w:World}
 (RA:∀ W,Cb 21 #[.string a,vI z] W (.tuple #[vU (X:Int),vI 0]))
 (RB:∀ W,Cb 21 #[.string b,vI z] W (.tuple #[vU (Y:Int),vI K])) :
 Cb 9 #[.string a,.string b,vI z] w (.tuple #[.bool false,vI 2,vI K]):=by
 have q0:(K == 0)=false:=beq_eq_false_iff_ne.mpr k0
 have q4:(K == 4)=false:=beq_eq_false_iff_ne.mpr k4
 have q0':(K != 0)=true:=by rw [bne,q0];rfl
 have q4':(K != 4)=true:=by rw [bne,q4];rfl
 clear k0 k4
 go_enter Tryz.func9,Tryz.ntmps9
 go_wp2_with fail
 refine (RA _).mono ?_
 rintro o w1 ⟨rfl,b1⟩
 have B1:Hid (Bl w w1):=b1
 clear b1
 go_wp2_with fail
 refine (RB _).mono ?_
 rintro o w2 ⟨rfl,b2⟩
 have B2:Hid (Bl w w2):=B1.out.trans (b2.mono B1.out.size)
 clear b2
 go_wp2
 go_ret3
 exact ⟨rfl,B2.out⟩
theorem aCI {a b:ByteArray}{z:Int}{X:Nat}{w:World}
 (RA:∀ W,Cb 21 #[.string a,vI z] W (.tuple #[vU (X:Int),vI 0]))
 (RB:∀ W,Cb 21 #[.string b,vI z] W (.tuple #[vU (X:Int),vI 0])) :
 Cb 9 #[.string a,.string b,vI z] w (.tuple #[.bool true,vI 0,vI 0]):=by
 have q:((X:Int) == (X:Int))=true:=beq_self_eq_true _
 go_enter Tryz.func9,Tryz.ntmps9
 go_wp2_with fail
 refine (RA _).mono ?_
 rintro o w1 ⟨rfl,b1⟩
 have B1:Hid (Bl w w1):=b1
 clear b1
 go_wp2_with fail
 refine (RB _).mono ?_
 rintro o w2 ⟨rfl,b2⟩
 have B2:Hid (Bl w w2):=B1.out.trans (b2.mono B1.out.size)
 clear b2
 go_wp2
 go_ret3
 exact ⟨rfl,B2.out⟩
theorem aCM {a b:ByteArray}{z:Int}{X Y x y:Nat}(ne:X ≠ Y) {w:World}
 (RA:∀ W,Cb 21 #[.string a,vI z] W (.tuple #[vU (X:Int),vI 0]))
 (RB:∀ W,Cb 21 #[.string b,vI z] W (.tuple #[vU (Y:Int),vI 0]))
 (MX:∀ W,Cs 16 #[vU (X:Int),vI z] W (vU (x:Int)))
 (MY:∀ W,Cs 16 #[vU (Y:Int),vI z] W (vU (y:Int))) :
 Cb 9 #[.string a,.string b,vI z] w (.tuple #[.bool (decide (x=0/\y=0)),vI 0,vI 0]):=by
 have q:((X:Int) == (Y:Int))=false:=beq_eq_false_iff_ne.mpr (by omega)
 clear ne
 by_cases x0:x=0
 . subst x0
   by_cases y0:y=0
   . subst y0
     rw [show decide ((0:Nat)=0/\(0:Nat)=0)=true from rfl]
     go_enter Tryz.func9,Tryz.ntmps9
     go_wp2_with fail
     refine (RA _).mono ?_
     rintro o w1 ⟨rfl,b1⟩
     have B1:Hid (Bl w w1):=b1
     clear b1
     go_wp2_with fail
     refine (RB _).mono ?_
     rintro o w2 ⟨rfl,b2⟩
     have B2:Hid (Bl w w2):=B1.out.trans (b2.mono B1.out.size)
     clear b2
     go_wp2_with fail
     refine (MX _).mono ?_
     rintro o ws ⟨rfl,es⟩
     subst es
     go_wp2_with fail
     refine (MY _).mono ?_
     rintro o ws ⟨rfl,es⟩
     subst es
     go_wp2
     go_ret3
     exact ⟨rfl,B2.out⟩
   . have yq:((y:Int) == 0)=false:=beq_eq_false_iff_ne.mpr (by omega)
     rw [show decide ((0:Nat)=0/\y=0)=false from decide_eq_false (fun h=>y0 h.2)]
     clear y0
     go_enter Tryz.func9,Tryz.ntmps9
     go_wp2_with fail
     refine (RA _).mono ?_
     rintro o w1 ⟨rfl,b1⟩
     have B1:Hid (Bl w w1):=b1
     clear b1
     go_wp2_with fail
     refine (RB _).mono ?_
     rintro o w2 ⟨rfl,b2⟩
     have B2:Hid (Bl w w2):=B1.out.trans (b2.mono B1.out.size)
     clear b2
     go_wp2_with fail
     refine (MX _).mono ?_
     rintro o ws ⟨rfl,es⟩
     subst es
     go_wp2_with fail
     refine (MY _).mono ?_
     rintro o ws ⟨rfl,es⟩
     subst es
     go_wp2
     go_ret3
     exact ⟨rfl,B2.out⟩
 . have xq:((x:Int) == 0)=false:=beq_eq_false_iff_ne.mpr (by omega)
   rw [show decide (x=0/\y=0)=false from decide_eq_false (fun h=>x0 h.1)]
   clear x0
   go_enter Tryz.func9,Tryz.ntmps9
   go_wp2_with fail
   refine (RA _).mono ?_
   rintro o w1 ⟨rfl,b1⟩
   have B1:Hid (Bl w w1):=b1
   clear b1
   go_wp2_with fail
   refine (RB _).mono ?_
   rintro o w2 ⟨rfl,b2⟩
   have B2:Hid (Bl w w2):=B1.out.trans (b2.mono B1.out.size)
   clear b2
   go_wp2_with fail
   refine (MX _).mono ?_
   rintro o ws ⟨rfl,es⟩
   subst es
   go_wp2
   go_ret3
   exact ⟨rfl,B2.out⟩
theorem aCJ {a b:ByteArray}{z:Int}{X:Nat}{w:World}
 (RA:∀ W,Cb 21 #[.string a,vI z] W (.tuple #[vU (X:Int),vI 0]))
 (RB:∀ W,Cb 21 #[.string b,vI z] W (.tuple #[vU (X:Int),vI 4])) :
 Cb 9 #[.string a,.string b,vI z] w (.tuple #[.bool true,vI 0,vI 0]):=by
 have q:((X:Int) == (X:Int))=true:=beq_self_eq_true _
 go_enter Tryz.func9,Tryz.ntmps9
 go_wp2_with fail
 refine (RA _).mono ?_
 rintro o w1 ⟨rfl,b1⟩
 have B1:Hid (Bl w w1):=b1
 clear b1
 go_wp2_with fail
 refine (RB _).mono ?_
 rintro o w2 ⟨rfl,b2⟩
 have B2:Hid (Bl w w2):=B1.out.trans (b2.mono B1.out.size)
 clear b2
 go_wp2
 go_ret3
 exact ⟨rfl,B2.out⟩
theorem aCN {a b:ByteArray}{z:Int}{X Y x y:Nat}(ne:X ≠ Y) {w:World}
 (RA:∀ W,Cb 21 #[.string a,vI z] W (.tuple #[vU (X:Int),vI 0]))
 (RB:∀ W,Cb 21 #[.string b,vI z] W (.tuple #[vU (Y:Int),vI 4]))
 (MX:∀ W,Cs 16 #[vU (X:Int),vI z] W (vU (x:Int)))
 (MY:∀ W,Cs 16 #[vU (Y:Int),vI z] W (vU (y:Int))) :
 Cb 9 #[.string a,.string b,vI z] w (.tuple #[.bool (decide (x=0/\y=0)),vI 0,vI 0]):=by
 have q:((X:Int) == (Y:Int))=false:=beq_eq_false_iff_ne.mpr (by omega)
 clear ne
 by_cases x0:x=0
 . subst x0
   by_cases y0:y=0
   . subst y0
     rw [show decide ((0:Nat)=0/\(0:Nat)=0)=true from rfl]
     go_enter Tryz.func9,Tryz.ntmps9
     go_wp2_with fail
     refine (RA _).mono ?_
     rintro o w1 ⟨rfl,b1⟩
     have B1:Hid (Bl w w1):=b1
     clear b1
     go_wp2_with fail
     refine (RB _).mono ?_
     rintro o w2 ⟨rfl,b2⟩
     have B2:Hid (Bl w w2):=B1.out.trans (b2.mono B1.out.size)
     clear b2
     go_wp2_with fail
     refine (MX _).mono ?_
     rintro o ws ⟨rfl,es⟩
     subst es
     go_wp2_with fail
     refine (MY _).mono ?_
     rintro o ws ⟨rfl,es⟩
     subst es
     go_wp2
     go_ret3
     exact ⟨rfl,B2.out⟩
   . have yq:((y:Int) == 0)=false:=beq_eq_false_iff_ne.mpr (by omega)
     rw [show decide ((0:Nat)=0/\y=0)=false from decide_eq_false (fun h=>y0 h.2)]
     clear y0
     go_enter Tryz.func9,Tryz.ntmps9
     go_wp2_with fail
     refine (RA _).mono ?_
     rintro o w1 ⟨rfl,b1⟩
     have B1:Hid (Bl w w1):=b1
     clear b1
     go_wp2_with fail
     refine (RB _).mono ?_
     rintro o w2 ⟨rfl,b2⟩
     have B2:Hid (Bl w w2):=B1.out.trans (b2.mono B1.out.size)
     clear b2
     go_wp2_with fail
     refine (MX _).mono ?_
     rintro o ws ⟨rfl,es⟩
     subst es
     go_wp2_with fail
     refine (MY _).mono ?_
     rintro o ws ⟨rfl,es⟩
     subst es
     go_wp2
     go_ret3
     exact ⟨rfl,B2.out⟩
 . have xq:((x:Int) == 0)=false:=beq_eq_false_iff_ne.mpr (by omega)
   rw [show decide (x=0/\y=0)=false from decide_eq_false (fun h=>x0 h.1)]
   clear x0
   go_enter Tryz.func9,Tryz.ntmps9
   go_wp2_with fail
   refine (RA _).mono ?_
   rintro o w1 ⟨rfl,b1⟩
   have B1:Hid (Bl w w1):=b1
   clear b1
   go_wp2_with fail
   refine (RB _).mono ?_
   rintro o w2 ⟨rfl,b2⟩
   have B2:Hid (Bl w w2):=B1.out.trans (b2.mono B1.out.size)
   clear b2
   go_wp2_with fail
   refine (MX _).mono ?_
   rintro o ws ⟨rfl,es⟩
   subst es
   go_wp2
   go_ret3
   exact ⟨rfl,B2.out⟩
theorem wC {a b:ByteArray}{z:Int}{X Y:Nat}{K:Int}(k0:K ≠ 0) (k4:K ≠ 4) {w:World}
 (RA:∀ W,Cb 21 #[.string a,vI z] W (.tuple #[vU (X:Int),vI 4]))
 (RB:∀ W,Cb 21 #[.string b,vI z] W (.tuple #[vU (Y:Int),vI K])) :
 Cb 9 #[.string a,.string b,vI z] w (.tuple #[.bool false,vI 2,vI K]):=by
 have q0:(K == 0)=false:=beq_eq_false_iff_ne.mpr k0
 have q4:(K == 4)=false:=beq_eq_false_iff_ne.mpr k4
 have q0':(K != 0)=true:=by rw [bne,q0];rfl
 have q4':(K != 4)=true:=by rw [bne,q4];rfl
 clear k0 k4
 go_enter Tryz.func9,Tryz.ntmps9
 go_wp2_with fail
 refine (RA _).mono ?_
 rintro o w1 ⟨rfl,b1⟩
 have B1:Hid (Bl w w1):=b1
 clear b1
 go_wp2_with fail
 refine (RB _).mono ?_
 rintro o w2 ⟨rfl,b2⟩
 have B2:Hid (Bl w w2):=B1.out.trans (b2.mono B1.out.size)
 clear b2
 go_wp2
 go_ret3
 exact ⟨rfl,B2.out⟩
theorem aCK {a b:ByteArray}{z:Int}{X:Nat}{w:World}
 (RA:∀ W,Cb 21 #[.string a,vI z] W (.tuple #[vU (X:Int),vI 4]))
 (RB:∀ W,Cb 21 #[.string b,vI z] W (.tuple #[vU (X:Int),vI 0])) :
 Cb 9 #[.string a,.string b,vI z] w (.tuple #[.bool true,vI 0,vI 0]):=by
 have q:((X:Int) == (X:Int))=true:=beq_self_eq_true _
 go_enter Tryz.func9,Tryz.ntmps9
 go_wp2_with fail
 refine (RA _).mono ?_
 rintro o w1 ⟨rfl,b1⟩
 have B1:Hid (Bl w w1):=b1
 clear b1
 go_wp2_with fail
 refine (RB _).mono ?_
 rintro o w2 ⟨rfl,b2⟩
 have B2:Hid (Bl w w2):=B1.out.trans (b2.mono B1.out.size)
 clear b2
 go_wp2
 go_ret3
 exact ⟨rfl,B2.out⟩
theorem aCO {a b:ByteArray}{z:Int}{X Y x y:Nat}(ne:X ≠ Y) {w:World}
 (RA:∀ W,Cb 21 #[.string a,vI z] W (.tuple #[vU (X:Int),vI 4]))
 (RB:∀ W,Cb 21 #[.string b,vI z] W (.tuple #[vU (Y:Int),vI 0]))
 (MX:∀ W,Cs 16 #[vU (X:Int),vI z] W (vU (x:Int)))
 (MY:∀ W,Cs 16 #[vU (Y:Int),vI z] W (vU (y:Int))) :
 Cb 9 #[.string a,.string b,vI z] w (.tuple #[.bool (decide (x=0/\y=0)),vI 0,vI 0]):=by
 have q:((X:Int) == (Y:Int))=false:=beq_eq_false_iff_ne.mpr (by omega)
 clear ne
 by_cases x0:x=0
 . subst x0
   by_cases y0:y=0
   . subst y0
     rw [show decide ((0:Nat)=0/\(0:Nat)=0)=true from rfl]
     go_enter Tryz.func9,Tryz.ntmps9
     go_wp2_with fail
     refine (RA _).mono ?_
     rintro o w1 ⟨rfl,b1⟩
     have B1:Hid (Bl w w1):=b1
     clear b1
     go_wp2_with fail
     refine (RB _).mono ?_
     rintro o w2 ⟨rfl,b2⟩
     have B2:Hid (Bl w w2):=B1.out.trans (b2.mono B1.out.size)
     clear b2
     go_wp2_with fail
     refine (MX _).mono ?_
     rintro o ws ⟨rfl,es⟩
     subst es
     go_wp2_with fail
     refine (MY _).mono ?_
     rintro o ws ⟨rfl,es⟩
     subst es
     go_wp2
     go_ret3
     exact ⟨rfl,B2.out⟩
   . have yq:((y:Int) == 0)=false:=beq_eq_false_iff_ne.mpr (by omega)
     rw [show decide ((0:Nat)=0/\y=0)=false from decide_eq_false (fun h=>y0 h.2)]
     clear y0
     go_enter Tryz.func9,Tryz.ntmps9
     go_wp2_with fail
     refine (RA _).mono ?_
     rintro o w1 ⟨rfl,b1⟩
     have B1:Hid (Bl w w1):=b1
     clear b1
     go_wp2_with fail
     refine (RB _).mono ?_
     rintro o w2 ⟨rfl,b2⟩
     have B2:Hid (Bl w w2):=B1.out.trans (b2.mono B1.out.size)
     clear b2
     go_wp2_with fail
     refine (MX _).mono ?_
     rintro o ws ⟨rfl,es⟩
     subst es
     go_wp2_with fail
     refine (MY _).mono ?_
     rintro o ws ⟨rfl,es⟩
     subst es
     go_wp2
     go_ret3
     exact ⟨rfl,B2.out⟩
 . have xq:((x:Int) == 0)=false:=beq_eq_false_iff_ne.mpr (by omega)
   rw [show decide (x=0/\y=0)=false from decide_eq_false (fun h=>x0 h.1)]
   clear x0
   go_enter Tryz.func9,Tryz.ntmps9
   go_wp2_with fail
   refine (RA _).mono ?_
   rintro o w1 ⟨rfl,b1⟩
   have B1:Hid (Bl w w1):=b1
   clear b1
   go_wp2_with fail
   refine (RB _).mono ?_
   rintro o w2 ⟨rfl,b2⟩
   have B2:Hid (Bl w w2):=B1.out.trans (b2.mono B1.out.size)
   clear b2
   go_wp2_with fail
   refine (MX _).mono ?_
   rintro o ws ⟨rfl,es⟩
   subst es
   go_wp2
   go_ret3
   exact ⟨rfl,B2.out⟩
theorem aCL {a b:ByteArray}{z:Int}{X:Nat}{w:World}
 (RA:∀ W,Cb 21 #[.string a,vI z] W (.tuple #[vU (X:Int),vI 4]))
 (RB:∀ W,Cb 21 #[.string b,vI z] W (.tuple #[vU (X:Int),vI 4])) :
 Cb 9 #[.string a,.string b,vI z] w (.tuple #[.bool true,vI 0,vI 0]):=by
 have q:((X:Int) == (X:Int))=true:=beq_self_eq_true _
 go_enter Tryz.func9,Tryz.ntmps9
 go_wp2_with fail
 refine (RA _).mono ?_
 rintro o w1 ⟨rfl,b1⟩
 have B1:Hid (Bl w w1):=b1
 clear b1
 go_wp2_with fail
 refine (RB _).mono ?_
 rintro o w2 ⟨rfl,b2⟩
 have B2:Hid (Bl w w2):=B1.out.trans (b2.mono B1.out.size)
 clear b2
 go_wp2
 go_ret3
 exact ⟨rfl,B2.out⟩
theorem aCP {a b:ByteArray}{z:Int}{X Y x y:Nat}(ne:X ≠ Y) {w:World}
 (RA:∀ W,Cb 21 #[.string a,vI z] W (.tuple #[vU (X:Int),vI 4]))
 (RB:∀ W,Cb 21 #[.string b,vI z] W (.tuple #[vU (Y:Int),vI 4]))
 (MX:∀ W,Cs 16 #[vU (X:Int),vI z] W (vU (x:Int)))
 (MY:∀ W,Cs 16 #[vU (Y:Int),vI z] W (vU (y:Int))) :
 Cb 9 #[.string a,.string b,vI z] w (.tuple #[.bool (decide (x=0/\y=0)),vI 0,vI 0]):=by
 have q:((X:Int) == (Y:Int))=false:=beq_eq_false_iff_ne.mpr (by omega)
 clear ne
 by_cases x0:x=0
 . subst x0
   by_cases y0:y=0
   . subst y0
     rw [show decide ((0:Nat)=0/\(0:Nat)=0)=true from rfl]
     go_enter Tryz.func9,Tryz.ntmps9
     go_wp2_with fail
     refine (RA _).mono ?_
     rintro o w1 ⟨rfl,b1⟩
     have B1:Hid (Bl w w1):=b1
     clear b1
     go_wp2_with fail
     refine (RB _).mono ?_
     rintro o w2 ⟨rfl,b2⟩
     have B2:Hid (Bl w w2):=B1.out.trans (b2.mono B1.out.size)
     clear b2
     go_wp2_with fail
     refine (MX _).mono ?_
     rintro o ws ⟨rfl,es⟩
     subst es
     go_wp2_with fail
     refine (MY _).mono ?_
     rintro o ws ⟨rfl,es⟩
     subst es
     go_wp2
     go_ret3
     exact ⟨rfl,B2.out⟩
   . have yq:((y:Int) == 0)=false:=beq_eq_false_iff_ne.mpr (by omega)
     rw [show decide ((0:Nat)=0/\y=0)=false from decide_eq_false (fun h=>y0 h.2)]
     clear y0
     go_enter Tryz.func9,Tryz.ntmps9
     go_wp2_with fail
     refine (RA _).mono ?_
     rintro o w1 ⟨rfl,b1⟩
     have B1:Hid (Bl w w1):=b1
     clear b1
     go_wp2_with fail
     refine (RB _).mono ?_
     rintro o w2 ⟨rfl,b2⟩
     have B2:Hid (Bl w w2):=B1.out.trans (b2.mono B1.out.size)
     clear b2
     go_wp2_with fail
     refine (MX _).mono ?_
     rintro o ws ⟨rfl,es⟩
     subst es
     go_wp2_with fail
     refine (MY _).mono ?_
     rintro o ws ⟨rfl,es⟩
     subst es
     go_wp2
     go_ret3
     exact ⟨rfl,B2.out⟩
 . have xq:((x:Int) == 0)=false:=beq_eq_false_iff_ne.mpr (by omega)
   rw [show decide (x=0/\y=0)=false from decide_eq_false (fun h=>x0 h.1)]
   clear x0
   go_enter Tryz.func9,Tryz.ntmps9
   go_wp2_with fail
   refine (RA _).mono ?_
   rintro o w1 ⟨rfl,b1⟩
   have B1:Hid (Bl w w1):=b1
   clear b1
   go_wp2_with fail
   refine (RB _).mono ?_
   rintro o w2 ⟨rfl,b2⟩
   have B2:Hid (Bl w w2):=B1.out.trans (b2.mono B1.out.size)
   clear b2
   go_wp2_with fail
   refine (MX _).mono ?_
   rintro o ws ⟨rfl,es⟩
   subst es
   go_wp2
   go_ret3
   exact ⟨rfl,B2.out⟩
theorem aH8   {z : Int} {g n f T : Nat} {L : Int} (hz : Fz z g n f T L) (l : List UInt8) : (prA g f T L l).1 < 2 * g := by
  obtain ⟨en, ng', g2, g0⟩ := dA       hz
  have hT := (aKT    hz).2.1
  unfold prA
  cases scn l with
  | none => show 0 < 2 * g; omega
  | some P =>
    show (ofP g f T L P).1 < 2 * g
    have sg : ∀ (c : Bool) (x : Nat), x ≤ n → sgd g c x < 2 * g := fun c x h => by
      cases c with
      | false => show x < 2 * g; omega
      | true => show x + g < 2 * g; omega
    unfold ofP
    split
    · rcases hz with ⟨_, rfl, _, rfl, rfl, _⟩ | ⟨_, rfl, _, rfl, rfl, _⟩ <;> decide
    · split
      · exact sg _ _ (by omega)
      · split
        · exact sg _ _ (by rw [en]; exact (fG      (by omega)).1)
        · exact sg _ _ (by rw [en]; exact (qT     (by omega)).1)
theorem aFk {z:Int}{g n f T:Nat}{L:Int}(hz:Fz z g n f T L) {a b:List UInt8}(ha:a.length<=1048576) (hb:b.length<=1048576):∃ (bb:Bool) (wh k:Int),
 (∀ W,Tab W -> Calls Tryz.prog 8 #[.string (sB a),.string (sB b),vI z] W fun o w'=>∃ v,o=.returned (.tuple #[.bool bb,v])/\ErV w' k aF (if wh=2 then sB b else sB a) v/\Bl W w') /\
 (∀ W,Cb 9 #[.string (sB a),.string (sB b),vI z] W (.tuple #[.bool bb,vI wh,vI k])):=by
 have OA:=fun W (t:Tab W)=>pH t (fun W t=>eG hz t (l:=a) (by omega))
 have OB:=fun W (t:Tab W)=>pH t (fun W t=>eG hz t (l:=b) (by omega))
 have RA:=fun W=>mT hz ha W
 have RB:=fun W=>mT hz hb W
 have la:=aH8 hz a
 have lb:=aH8 hz b
 generalize (prA g f T L a).1=X at *
 generalize (prA g f T L a).2=KA at *
 generalize (prA g f T L b).1=Y at *
 generalize (prA g f T L b).2=KB at *
 by_cases h1:KA ≠ 0/\KA ≠ 4
 . rw [if_neg h1.2] at OA
   exact ⟨false,1,KA,fun W t=>rG h1.1 t OA,fun W=>oT h1.1 h1.2 RA⟩
 . have a0:(if KA=4 then 0 else KA)=0:=by
    by_cases q:KA=4
    . exact if_pos q
    . rw [if_neg q]
      exact Classical.byContradiction fun y=>h1 ⟨y,q⟩
   rw [a0] at OA
   have ca:KA=0 \/ KA=4:=by omega
   by_cases h2:KB ≠ 0/\KB ≠ 4
   . rw [if_neg h2.2] at OB
     refine ⟨false,2,KB,fun W t=>aA4 h2.1 t OA OB,fun W=>?_⟩
     rcases ca with rfl | rfl
     . exact vZ h2.1 h2.2 RA RB
     . exact wC h2.1 h2.2 RA RB
   . have b0:(if KB=4 then 0 else KB)=0:=by
      by_cases q:KB=4
      . exact if_pos q
      . rw [if_neg q]
        exact Classical.byContradiction fun y=>h2 ⟨y,q⟩
     rw [b0] at OB
     have cb:KB=0 \/ KB=4:=by omega
     obtain ⟨r,CM,hr⟩:=aGf hz la lb
     have fin:∀ {W:World} {o:Ending} {w':World} {bb:Bool},(o=.returned (.tuple #[.bool bb,.nilIface])/\Bl W w') -> ∃ v,o=.returned (.tuple #[.bool bb,v])/\ErV w' 0 aF (if (0:Int)=2 then sB b else sB a) v/\Bl W w':=by
      rintro W o w' bb ⟨rfl,q⟩
      exact ⟨_,rfl,.inl ⟨rfl,rfl⟩,q⟩
     by_cases e:X=Y
     . subst e
       refine ⟨true,0,0,fun W t=>(aJL t OA OB CM).mono fun _ _ q=>fin q,fun W=>?_⟩
       rcases ca with rfl | rfl <;> rcases cb with rfl | rfl
       . exact aCI RA RB
       . exact aCJ RA RB
       . exact aCK RA RB
       . exact aCL RA RB
     . have MX:=fun W=>aFd hz la W
       have MY:=fun W=>aFd hz lb W
       refine ⟨r == 0,0,0,fun W t=>(aJM e t OA OB CM).mono fun _ _ q=>fin q,fun W=>?_⟩
       . rw [hr e]
         rcases ca with rfl | rfl <;> rcases cb with rfl | rfl
         . exact aCM e RA RB MX MY
         . exact aCN e RA RB MX MY
         . exact aCO e RA RB MX MY
         . exact aCP e RA RB MX MY
def WS (W:World) (V:Value) (N:Nat) (Y:Nat -> Nat):Prop:=∃ ao c,V=.slice ao N c/\(0<N -> ∃ g,ao=some ⟨g,0,none⟩/\g<W.heap.size/\∀ i,i<N -> W.cell? ⟨g,0+i,none⟩=some (vU ((Y i:Nat):Int)))
theorem WS.step {W W':World}{V:Value}{N:Nat}{Y:Nat -> Nat}(h:WS W V N Y) (b:Bl W W'):WS W' V N Y:=by
 obtain ⟨ao,c,e,k⟩:=h
 refine ⟨ao,c,e,fun n0=>?_⟩
 obtain ⟨g,ea,lt,ce⟩:=k n0
 exact ⟨g,ea,Nat.lt_of_lt_of_le lt b.size,fun i hi=>(b.cell (p:=⟨g,0+i,none⟩) lt).trans (ce i hi)⟩
theorem WS.at {W:World}{ao:Option Addr}{c N:Nat}{Y:Nat -> Nat}(h:WS W (.slice ao N c) N Y) (n0:0<N):∃ g,ao=some ⟨g,0,none⟩/\g<W.heap.size/\∀ i,i<N -> W.cell? ⟨g,0+i,none⟩=some (vU ((Y i:Nat):Int)):=by
 obtain ⟨ao',c',e,k⟩:=h
 obtain ⟨rfl,_,rfl⟩:=Value.slice.inj e
 exact k n0
theorem kO {z:Int}{ao:Option Addr}{n c b o m N:Nat}{f:Nat -> List UInt8}{Y:Nat -> Nat}{k:Int}{tx:ByteArray}(hc:(k ≠ 0/\k ≠ 5/\m<n/\tx=sB (f m)) \/ (k=0/\tx=⟨#[]⟩) \/ (k=5/\tx=⟨#[]⟩)) (hN:N<=1048576) {w:World}(hT:Tab w) (hg:ErrT w) (S:SlS w ao n c b o f)
 (AL:Calls Tryz.prog 5 #[.slice ao n c,vI z,.pointer none] w fun o w'=>∃ V E,o=.returned (.tuple #[V,vI ((m:Nat):Int),E])/\WS w' V N Y/\ErV w' k aF tx E/\Bl w w')
 (RL:∀ W,SlS W ao n c b o f -> Calls Tryz.prog 6 #[.slice ao n c,vI z] W fun o w'=>∃ V,o=.returned (.tuple #[V,vI ((m:Nat):Int),vI k])/\WS w' V N Y/\Bl W w')
 (SB:∀ i,i+1<n -> ∃ (bb:Bool) (wh k:Int),
  (∀ W,Tab W -> Calls Tryz.prog 8 #[.string (sB (f i)),.string (sB (f (i+1))),vI z] W fun o w'=>∃ v,o=.returned (.tuple #[.bool bb,v])/\ErV w' k aF (if wh=2 then sB (f (i+1)) else sB (f i)) v/\Bl W w') /\
  (∀ W,Cb 9 #[.string (sB (f i)),.string (sB (f (i+1))),vI z] W (.tuple #[.bool bb,vI wh,vI k]))) :
 Cb 3 #[.slice ao n c,vI z] w (.bool true):=by
 have HS:Hid (SlS w ao n c b o f):=S
 have HT:Hid (Tab w/\ErrT w):=⟨hT,hg⟩
 have HSB:Hid (∀ i,i+1<n -> _):=SB
 have hn:n<=1048576:=S.many
 have WK:=fun W (h:Tab W) (h':ErrT W)=>aJZ W h h'
 have RL':Hid (∀ W,SlS W ao n c b o f -> _):=RL
 rcases hc with ⟨k0,k5,hm,rfl⟩ | ⟨rfl,rfl⟩ | ⟨rfl,rfl⟩
 have kq0:(k == 0)=false:=beq_eq_false_iff_ne.mpr k0
 have kq5:(k == 5)=false:=beq_eq_false_iff_ne.mpr k5
 have kr0:(k != 0)=true:=by rw [bne,kq0];rfl
 have kr5:(k != 5)=true:=by rw [bne,kq5];rfl
 have m1:((m:Nat):Int)<(n:Int):=by omega
 have m0:(0:Int)<=((m:Nat):Int):=by omega
 have HM:Hid (m<n):=hm
 obtain rfl:=S.addr (by omega)
 clear k0 k5 hm
 all_goals
  have qm:(((m:Nat):Int) == ((m:Nat):Int))=true:=beq_self_eq_true _
  have qN:(((N:Nat):Int) == ((N:Nat):Int))=true:=beq_self_eq_true _
  clear S hT hg SB RL
  go_enter Tryz.func3,Tryz.ntmps3
  go_wp2_with fail
  refine AL.mono ?_
  rintro o1 w1 ⟨V1,E,rfl,ws1,e1,b1⟩
  have B1:Hid (Bl w w1):=b1
  have E1:Hid (ErV w1 _ aF _ E):=e1
  have W1:Hid (WS w1 V1 N Y):=ws1
  have RL1:=RL'.out w1 (HS.out.below b1)
  clear b1 e1 ws1 AL
  go_wp2_with fail
  refine RL1.mono ?_
  rintro o2 w2 ⟨V2,rfl,ws2,b2⟩
  have B2:Hid (Bl w w2):=B1.out.trans (b2.mono B1.out.size)
  have TL:=lF (E1.out.below b2 (Nat.le_refl _)) (HT.out.2.below B2.out HT.out.2.pos)
  unfold aF at TL
  have W2:Hid (WS w2 V1 N Y/\WS w2 V2 N Y):=⟨W1.out.step b2,ws2⟩
  obtain ⟨a1,c1,rfl,_⟩:=W1.out
  obtain ⟨a2,c2,rfl,_⟩:=ws2
  clear b2 RL1 W1 E1
  try have hcm:=(HS.out.below B2.out).cell m HM.out
  go_wp2_with fail
  all_goals first | (exfalso;omega) | skip
  refine TL.mono ?_
  rintro o3 w3 ⟨rfl,b3⟩
  have B3:Hid (Bl w w3):=B2.out.trans (b3.mono B2.out.size)
  have W3:Hid (WS w3 (.slice a1 N c1) N Y/\WS w3 (.slice a2 N c2) N Y):=⟨W2.out.1.step b3,W2.out.2.step b3⟩
  clear b3 TL W2
  try clear hcm
  go_wp2
  go_loopw [12] (fun iv wr=>∃ i:Nat,iv=vI (i:Int)/\i<=N/\Hid (Bl w3 wr)) (fun iv _=>N - (intOf iv).toNat)
  case atStart=>exact ⟨0,rfl,Nat.zero_le _,Below.refl _ _⟩
  case round =>
   obtain ⟨i,rfl,hi,HB⟩:=hrel
   by_cases c1':i<N
   . obtain ⟨g1,ea1,lt1,ce1⟩:=(W3.out.1.step HB.out).at (by omega)
     obtain ⟨g2,ea2,lt2,ce2⟩:=(W3.out.2.step HB.out).at (by omega)
     subst ea1
     subst ea2
     have hc:=ce1 i c1'
     have hc':=ce2 i c1'
     rw [Nat.zero_add] at hc hc'
     have i1:(i:Int)<(N:Int):=by omega
     have i0:(0:Int)<=(i:Int):=by omega
     have qY:(((Y i:Nat):Int) == ((Y i:Nat):Int))=true:=beq_self_eq_true _
     clear ce1 ce2 lt1 lt2
     go_wp2
     go_region
     all_goals
      go_wp2
      go_roundw
      case rel=>exact ⟨i+1,by go_num,by omega,HB.out.drew⟩
      case measure=>simp [intOf];omega
   . have i1:¬ (i:Int)<(N:Int):=by omega
     have B4:Hid (Bl w wr):=B3.out.trans (HB.out.mono B3.out.size)
     clear HB W3 B3
     go_wp2
     go_loopw [13] (fun iv wr'=>∃ i:Nat,iv=vI (i:Int)/\i<=n/\Hid (Bl w wr')) (fun iv _=>n - (intOf iv).toNat)
     case atStart=>exact ⟨0,rfl,Nat.zero_le _,B4⟩
     case round =>
      rename_i wr0
      obtain ⟨i,rfl,hi,HB⟩:=hrel
      by_cases c2':i+1<n
      . obtain ⟨bb,wh,kk,SP,SR⟩:=HSB.out i c2'
        try obtain rfl:=HS.out.addr (by omega)
        have HB0:Hid (b<w.heap.size):=HS.out.blk (by omega)
        have HC0:Hid (w.cell? ⟨b,o+i,none⟩=some (.string (sB (f i)))/\w.cell? ⟨b,o+(i+1),none⟩=some (.string (sB (f (i+1))))):=⟨HS.out.cell i (by omega),HS.out.cell (i+1) c2'⟩
        have hc0:=(HS.out.below HB.out).cell i (by omega)
        have hc1:=(HS.out.below HB.out).cell (i+1) c2'
        have i1:(i:Int)+1<(n:Int):=by omega
        have i2:(i:Int)<(n:Int):=by omega
        have i0:(0:Int)<=(i:Int):=by omega
        have i3:(0:Int)<=(i:Int)+1:=by omega
        have i4:((i:Int)+1).toNat=i+1:=by omega
        have iw:IntKind.i64.wrap ((i:Int)+1)=(i:Int)+1:=IntWalk.i64_in _ ⟨by omega,by omega⟩
        have qb:(bb != bb)=false:=by cases bb <;> rfl
        have qb':(bb == bb)=true:=by cases bb <;> rfl
        generalize sB (f i)=sa at *
        generalize sB (f (i+1))=sb at *
        rcases Classical.em (wh=2) with h2 | h2
        rw [if_pos h2] at SP
        subst h2
        rotate_left
        rw [if_neg h2] at SP
        have q2:(wh == 2)=false:=beq_eq_false_iff_ne.mpr h2
        clear h2
        all_goals
         have SP1:=SP _ (HT.out.1.next HB.out.drew)
         clear SP
         go_wp2
         go_region_held3 (fun w'=>w'.cell? ⟨b,o+i,none⟩=some (.string sa)/\w'.cell? ⟨b,o+(i+1),none⟩=some (.string sb)) (simp [*,go_sem])
          (first | (go_at_call 8;refine SP1.mono ?_;rintro o5 w5 ⟨v5,rfl,e5,b5⟩;have B5:Hid (Bl w w5):=HB.out.drew.trans (b5.mono HB.out.drew.size);have E5:Hid (ErV w5 kk aF _ v5):=e5;clear b5 e5 SP1 hc0 hc1;have hc0:=(B5.out.cell (p:=⟨b,o+i,none⟩) HB0.out).trans HC0.out.1;have hc1:=(B5.out.cell (p:=⟨b,o+(i+1),none⟩) HB0.out).trans HC0.out.2))
         all_goals
          go_wp2
          go_region_held3 (fun w'=>w'.cell? ⟨b,o+i,none⟩=some (.string sa)/\w'.cell? ⟨b,o+(i+1),none⟩=some (.string sb)) (simp [*,go_sem])
           (first | (go_at_call 9;refine (SR _).mono ?_;rintro o6 w6 ⟨rfl,b6⟩;have B6:Hid (Bl w w6):=B5.out.drew.trans (b6.mono B5.out.drew.size);have E6:Hid (ErV w6 kk aF _ v5):=E5.out.below (((Below.refl w5.heap.size w5).drew).trans (b6.mono ((Below.refl w5.heap.size w5).drew).size)) (Nat.le_refl _);clear b6 hc0 hc1;have hc0:=(B6.out.cell (p:=⟨b,o+i,none⟩) HB0.out).trans HC0.out.1;have hc1:=(B6.out.cell (p:=⟨b,o+(i+1),none⟩) HB0.out).trans HC0.out.2))
          all_goals
           have TL:=lF E6.out (HT.out.2.below B6.out HT.out.2.pos)
           unfold aF at TL
           clear E6 E5 B5 SR
           go_wp2_with fail
           refine TL.mono ?_
           rintro o7 w7 ⟨rfl,b7⟩
           have B7:Hid (Bl w w7):=B6.out.trans (b7.mono B6.out.size)
           clear b7 TL hc0 hc1
           go_wp2
           go_roundw
           case rel=>exact ⟨i+1,by go_num,by omega,B7⟩
           case measure=>simp [intOf];omega
      . have i1:¬ (i:Int)+1<(n:Int):=by omega
        go_wp2_with fail
        refine (WK _ (HT.out.1.next HB.out) (HT.out.2.below HB.out HT.out.2.pos)).mono ?_
        rintro o9 w9 ⟨rfl,b9⟩
        have B9:Hid (Bl w w9):=HB.out.trans (b9.mono HB.out.size)
        clear b9
        go_wp2
        go_ret
        exact ⟨rfl,B9.out⟩
theorem aJJ {z:Int}(h:Sn z) (s:ByteArray) (w:World):Cb 21 #[.string s,vI z] w (.tuple #[vU 0,vI 5]) :=
 (aHv fun W=>aAq h W).mono fun _ _ q=>q
theorem uG        (K : Nat → Int) : ∀ n : Nat, (∀ j, j < n → K j = 0) ∨ ∃ m, m < n ∧ K m ≠ 0 ∧ ∀ j, j < m → K j = 0
  | 0 => .inl fun j h => absurd h (by omega)
  | n + 1 => by
    rcases uG        K n with h | ⟨m, h1, h2, h3⟩
    · by_cases q : K n = 0
      · refine .inl fun j hj => ?_
        by_cases e : j = n
        · rw [e]; exact q
        · exact h j (by omega)
      · exact .inr ⟨n, by omega, q, h⟩
    · exact .inr ⟨m, by omega, h2, h3⟩
theorem RW.ws {w w':World}{V:Value}{n:Nat}{X:Nat -> Nat}(h:RW w w' V ((List.range n).map X)):WS w' V n X:=by
 have e:((List.range n).map X).length=n:=by rw [List.length_map,List.length_range]
 obtain ⟨ao,c,hv⟩:=h.len
 rw [e] at hv
 refine ⟨ao,c,hv,fun n0=>?_⟩
 obtain ⟨g,c',hv',lt,ce⟩:=h.at (by rw [e];exact n0)
 rw [hv] at hv'
 refine ⟨g,(Value.slice.inj hv').1,lt,fun i hi=>?_⟩
 have q:=ce i (by rw [e];exact hi)
 rw [q]
 simp
theorem rO (W:World) (Y:Nat -> Nat):WS W (.slice none 0 0) 0 Y:=⟨none,0,rfl,fun h=>absurd h (by omega)⟩
theorem aJf     (g f T : Nat) (L : Int) (l : List UInt8) : (prA g f T L l).2 ≠ 5 := by
  unfold prA
  cases scn l with
  | none => exact (by decide : (3 : Int) ≠ 5)
  | some P =>
    show (if (ofP g f T L P).2 then (4 : Int) else 0) ≠ 5
    split <;> decide
theorem aCA {z:Int}{ao:Option Addr}{n c b o:Nat}{f:Nat -> List UInt8}{w:World}(hT:Tab w) (hg:ErrT w) (S:SlS w ao n c b o f) :
 Cb 3 #[.slice ao n c,vI z] w (.bool true):=by
 rcases aKS z with h | ⟨g,N,F,T,L,hz⟩
 . refine kO (k:=5) (tx:=⟨#[]⟩) (.inr (.inr ⟨rfl,rfl⟩)) (m:=0) (N:=0) (Y:=fun _=>0) (f:=f) (b:=b) (o:=o) (by omega) hT hg S ?_ ?_ ?_
   . exact (aIe h w).mono fun _ _ ⟨v,e,h1,h2⟩=>⟨_,v,e,rO _ _,h1,h2⟩
   . intro W _
     exact (aHm fun W=>aAq h W).mono fun _ _ ⟨e,h2⟩=>⟨_,e,rO _ _,h2⟩
   . intro i hi
     refine ⟨false,1,5,fun W t=>?_,fun W=>oT (X:=0) (by decide) (by decide) fun W=>aJJ h _ W⟩
     rw [if_neg (by decide)]
     refine rG (X:=0) (by decide) t fun W t=>?_
     have q:=pH (X:=0) (K:=5) (z:=z) (s:=sB (f i)) t fun W _=>aHb h (by have:=S.len i (by omega);omega) none W
     rw [if_neg (by decide)] at q
     exact q
 . have SB:∀ i,i+1<n -> _:=fun i hi=>aFk hz (S.len i (by omega)) (S.len (i+1) hi)
   obtain ⟨X,hX⟩:∃ X:Nat -> Nat,∀ i,X i=(prA g F T L (f i)).1:=⟨_,fun _=>rfl⟩
   obtain ⟨K,hK⟩:∃ K:Nat -> Int,∀ i,K i=(prA g F T L (f i)).2:=⟨_,fun _=>rfl⟩
   have AL:=aKe (X:=X) (K:=K) hT S (fun W=>jK hz W) fun i hi W t=>by
    rw [hX i,hK i]
    exact eG hz t (by have:=S.len i hi;omega)
   have RL:=fun W (S':SlS W ao n c b o f)=>aJo (X:=X) (K:=K) S' (fun W=>gT hz W) fun i hi W=>by
    rw [hX i,hK i]
    exact mT hz (S.len i hi) W
   have hk5:∀ i,K i ≠ 5:=fun i=>by rw [hK i];exact aJf g F T L (f i)
   rcases uG K n with q | ⟨m,h1,h2,h3⟩
   . refine kO (k:=0) (tx:=⟨#[]⟩) (.inr (.inl ⟨rfl,rfl⟩)) (m:=n) (N:=n) (Y:=X) (f:=f) (b:=b) (o:=o) S.many hT hg S ?_ ?_ SB
     . refine AL.mono ?_
       rintro o1 w1 ⟨V,m,E,rfl,hA,hE,hB⟩
       rcases hA with ⟨rfl,_,hr⟩ | ⟨hm,_,_,hk⟩
       . rw [if_neg (by omega)] at hE
         refine ⟨V,E,rfl,hr.ws,?_,hB⟩
         rcases hE with ⟨_,e⟩ | ⟨e,_⟩
         . exact .inl ⟨rfl,e⟩
         . exact absurd rfl e
       . exact absurd (q m hm) hk
     . intro W S'
       refine (RL W S').mono ?_
       rintro o1 w1 ⟨V,m,rfl,hA,hB⟩
       rcases hA with ⟨rfl,_,hr⟩ | ⟨hm,_,_,hk⟩
       . exact ⟨V,by rw [if_neg (by omega)],hr.ws,hB⟩
       . exact absurd (q m hm) hk
   . refine kO (k:=K m) (tx:=sB (f m)) (.inl ⟨h2,hk5 m,h1,rfl⟩) (m:=m) (N:=0) (Y:=fun _=>0) (f:=f) (b:=b) (o:=o) (by omega) hT hg S ?_ ?_ SB
     . refine AL.mono ?_
       rintro o1 w1 ⟨V,m',E,rfl,hA,hE,hB⟩
       rcases hA with ⟨rfl,hq,_⟩ | ⟨hm,rfl,hq,hk⟩
       . exact absurd (hq m h1) h2
       . obtain rfl:m'=m:=by
          rcases Nat.lt_trichotomy m' m with h | h | h
          . exact absurd (h3 m' h) hk
          . exact h
          . exact absurd (hq m h) h2
         rw [if_pos hm] at hE
         exact ⟨_,E,rfl,rO _ _,hE,hB⟩
     . intro W S'
       refine (RL W S').mono ?_
       rintro o1 w1 ⟨V,m',rfl,hA,hB⟩
       rcases hA with ⟨rfl,hq,_⟩ | ⟨hm,rfl,hq,hk⟩
       . exact absurd (hq m h1) h2
       . obtain rfl:m'=m:=by
          rcases Nat.lt_trichotomy m' m with h | h | h
          . exact absurd (h3 m' h) hk
          . exact h
          . exact absurd (hq m h) h2
         exact ⟨_,by rw [if_pos hm],rO _ _,hB⟩
end Go.Proofs.YtejgpbhionadbaaGreatDoor
