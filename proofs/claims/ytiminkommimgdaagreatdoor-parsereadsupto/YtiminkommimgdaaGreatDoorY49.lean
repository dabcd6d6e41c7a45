/-
  Holds: URnJ UBtR PsR LawPReads.
-/
import Derived.Test.YtiminkommimgdaaGreatDoorShelf
import Derived.Lib.ItoaNum
import Derived.WalkSpells
import Derived.WalkLawsBesides
import Derived.Lib.Mul64
import Derived.Lib.TrailingZeros
import Derived.Deep.OwnRows
import Derived.Laws.CopyOwn
import Derived.BigQuiet
import Derived.Deep.RegionHeld3
import Derived.Deep.LoopGhost
import Derived.Deep.AppendLies
import Derived.Deep.DeepCutAuto
import Derived.Stop.Asserts
import Derived.RowKitTokens
import Derived.Lib.BufferWrite
import Derived.Lib.ConvBytes
import Derived.Test.YtiminkommimgdaaGreatDoorRows
import Derived.Laws.EntriesVeiled
import Derived.Test.YtiminkommimgdaaGreatDoorY44
import Derived.Test.YtiminkommimgdaaGreatDoorY48
set_option maxRecDepth 100000
set_option maxHeartbeats 4000000
namespace Go.Proofs.YtiminkommimgdaaGreatDoor
open Go.RowKit
def anR (g:Nat) (c:Bool) (p:Nat × Bool):Value:=.tuple #[vU ((sgd g c p.1:Nat):Int),vI (if p.2 then 4 else 0)]
theorem rsigned_z2 {s:Int}{g n f T:Nat}{L:Int}(h:Fz s g n f T L) {x:Nat}(hx:x≤T * 2 ^ f) (c:Bool) (w:World):Cs 23 #[.bool c,vU (x:Int),vI s] w (vU ((sgd g c x:Nat):Int)):=by
 rcases h with ⟨rfl,rfl,rfl,rfl,rfl,rfl⟩ | ⟨rfl,rfl,rfl,rfl,rfl,rfl⟩
 · exact rsigned_32 (by omega) c w
 · exact rsigned_64 (by omega) c w
theorem rrnd_ok {s:Int}{g n' f T:Nat}{L:Int}(hz:Fz s g n' f T L) {w:World}{vn vd:Value}{X Y:Nat}{e:Int}(c more:Bool) (hn:Big.NatV w vn X) (hd:Big.NatV w vd Y) (fX:Fits 256 X) (fY:Fits 256 Y) (y0:Y ≠ 0):Cb 105 #[vI s,.bool c,vn,vd,vI e,.bool more] w (anR g c (rdA f T L X Y e more)):=by
 have hf:0<f∧f≤52∧2≤T∧T≤2047∧L≤0 ∧ -1074≤L:=by rcases hz with ⟨_,_,_,h,h',h''⟩ | ⟨_,_,_,h,h',h''⟩ <;> omega
 obtain ⟨f1,f2,f3,f4,f5,f6⟩:=hf
 have en:=rdA_end (f:=f) (T:=T) (L:=L) (n:=X) (d:=Y) (e:=e) (more:=more) (by omega)
 have bX:=bl_fits fX
 have bY:=bl_fits fY
 obtain ⟨ao,m,cp,rfl,hm0⟩:=big_slice hn
 by_cases z:X=0 ∨ e < -20000
 · have hA:rdA f T L X Y e more=(0,false):=by
    rcases z with z | z
    · unfold rdA;rw [if_pos z]
    · exact rdA_low f1 (by omega) more y0 (bl_lt X) (by omega)
   have SG:=fun W=>rsigned_z2 hz (x:=0) (Nat.zero_le _) c W
   rw [show ((0:Nat):Int)=0 from rfl] at SG
   have eA:anR g c (rdA f T L X Y e more)=.tuple #[vU ((sgd g c 0:Nat):Int),vI 0]:=by rw [hA];rfl
   rw [eA]
   generalize sgd g c 0=y at *
   have zz:m=0 ∨ (((m:Int) == 0)=false∧e < -20000):=by
    by_cases q:m=0
    · exact .inl q
    · refine .inr ⟨by simp;omega,?_⟩
      rcases z with z | z
      · exact absurd (hm0.2 z) q
      · exact z
   clear hA eA en hz hn hd fX fY y0 hm0 z bX bY f1 f2 f3 f4 f5 f6
   rcases zz with rfl | ⟨z1,z2⟩
   · go_enter Tryz.func105,Tryz.ntmps105
     go_wp2_with fail
     refine (SG _).mono ?_
     rintro x wz ⟨rfl,rfl⟩
     go_wp2
     go_ret2
     exact ⟨rfl,Below.refl _ _⟩
   · go_enter Tryz.func105,Tryz.ntmps105
     go_wp2_with fail
     refine (SG _).mono ?_
     rintro x wz ⟨rfl,rfl⟩
     go_wp2
     go_ret2
     exact ⟨rfl,Below.refl _ _⟩
 · have x0:X ≠ 0:=fun q=>z (.inl q)
   have m0:((m:Int) == 0)=false:=by
    have:m ≠ 0:=fun q=>x0 (hm0.1 q)
    simp;omega
   have z2:¬ e < -20000:=fun q=>z (.inr q)
   have TI:=fun W=>rinf_z hz W
   by_cases k:20000<e
   · have hA:rdA f T L X Y e more=(T * 2 ^ f,true):=rdA_high f1 (by omega) more x0 y0 (bl_lt Y) (by omega)
     have SG:=fun W=>rsigned_z2 hz (x:=T * 2 ^ f) (Nat.le_refl _) c W
     have eA:anR g c (rdA f T L X Y e more)=.tuple #[vU ((sgd g c (T * 2 ^ f):Nat):Int),vI 4]:=by rw [hA];rfl
     rw [eA]
     generalize sgd g c (T * 2 ^ f)=y at *
     generalize T * 2 ^ f=t at *
     clear hA eA en hz hn hd fX fY y0 hm0 z bX bY f1 f2 f3 f4 f5 f6 x0
     go_enter Tryz.func105,Tryz.ntmps105
     go_wp2_with fail
     refine (TI _).mono ?_
     rintro x wz ⟨rfl,rfl⟩
     go_wp2_with fail
     refine (SG _).mono ?_
     rintro x wy ⟨rfl,rfl⟩
     go_wp2
     go_ret2
     exact ⟨rfl,Below.refl _ _⟩
   · have TF:=rfrac_ok (e:=e) hz more hn hd fX fY x0 y0 (by omega) (by omega)
     have SG:=fun W=>rsigned_z2 hz en.1 c W
     unfold anR
     generalize (rdA f T L X Y e more).1=b at *
     generalize (rdA f T L X Y e more).2=fl at *
     generalize sgd g c b=y at *
     generalize T * 2 ^ f=t at *
     have k2:e≤20000:=by omega
     clear en hz hn hd fX fY y0 hm0 z bX bY f1 f2 f3 f4 f5 f6 x0 k
     cases fl
     · go_enter Tryz.func105,Tryz.ntmps105
       go_wp2_with fail
       refine (TI _).mono ?_
       rintro x wz ⟨rfl,rfl⟩
       go_wp2_with fail
       refine TF.mono ?_
       rintro x wy ⟨rfl,by1⟩
       have BY:Hid (Bl wz wy):=by1
       clear by1
       go_wp2_with fail
       refine (SG _).mono ?_
       rintro x wv ⟨rfl,rfl⟩
       go_wp2
       go_ret2
       exact ⟨rfl,BY.out⟩
     · go_enter Tryz.func105,Tryz.ntmps105
       go_wp2_with fail
       refine (TI _).mono ?_
       rintro x wz ⟨rfl,rfl⟩
       go_wp2_with fail
       refine TF.mono ?_
       rintro x wy ⟨rfl,by1⟩
       have BY:Hid (Bl wz wy):=by1
       clear by1
       go_wp2_with fail
       refine (SG _).mono ?_
       rintro x wv ⟨rfl,rfl⟩
       go_wp2
       go_ret2
       exact ⟨rfl,BY.out⟩
theorem rwhole_ok {s:Int}{g n' f T:Nat}{L:Int}(hz:Fz s g n' f T L) (c more:Bool) {m:Nat}{e:Int}(hm:m<18446744073709551616) (p1:¬ e < -1099511627776) (p2:¬ 1099511627776<e) (w:World):Cb 54 #[vI s,.bool c,vU (m:Int),vI e,.bool more] w (anR g c (rdA f T L m 1 e more)):=by
 have HS:=fun W=>rsize_z hz W
 have S1:=fun W=>small_nat m hm W
 have S2:∀ W,Calls Tryz.prog 88 #[vU 1] W fun e w'=>∃ v,e=.returned v∧Big.NatV w' v 1∧Bl W w':=fun W=>small_nat 1 (by unfold B;decide) W
 have fm:Fits 256 m:=(Fits.word (n:=1) (by rw [Nat.pow_one];exact hm)).up (by omega)
 have f1:Fits 256 1:=(two_fits (s:=0) (k:=1) (by omega)).up (by omega)
 have H0:Hid (Fits 256 m∧Fits 256 1∧Fz s g n' f T L):=⟨fm,f1,hz⟩
 clear fm f1 hz hm
 unfold anR
 go_enter Tryz.func54,Tryz.ntmps54
 go_wp2_with fail
 refine (HS _).mono ?_
 rintro x w3 ⟨rfl,rfl⟩
 go_wp2_with fail
 refine (S1 _).mono ?_
 rintro x w4 ⟨v1,rfl,n1,b4⟩
 have N1:Hid (Big.NatV w4 v1 m∧Bl w3 w4):=⟨n1,b4⟩
 clear n1 b4 S1
 go_wp2_with fail
 refine (S2 _).mono ?_
 rintro x w5 ⟨v2,rfl,n2,b5⟩
 have N2:Hid (Bl w3 w5):=N1.out.2.trans (b5.mono N1.out.2.size)
 have TR:=rrnd_ok (e:=e) H0.out.2.2 c more (N1.out.1.below b5) n2 H0.out.1 H0.out.2.1 (by omega)
 unfold anR at TR
 clear n2 b5 S2 N1
 go_wp2_with fail
 refine TR.mono ?_
 rintro x w6 ⟨rfl,b6⟩
 have B6:Hid (Bl w3 w6):=N2.out.trans (b6.mono N2.out.size)
 clear b6 TR N2
 go_wp2
 all_goals go_ret2
 all_goals exact ⟨rfl,B6.out⟩
theorem rnan_32 (w:World):Cs 20 #[vI 32] w (vU 2143289344):=by
 have hor:bits BinOp.or IntKind.u64 2139095040 4194304=2143289344:=by decide
 have H1:=fun W=>rinf_32 W
 have H2:=fun W=>rfrac_32 W
 go_enter Tryz.func20,Tryz.ntmps20
 go_wp2_with fail
 refine (H1 _).mono ?_
 rintro e w ⟨rfl,rfl⟩
 go_wp2_with fail
 refine (H2 _).mono ?_
 rintro e w ⟨rfl,rfl⟩
 go_wp2
 go_ret
 exact ⟨rfl,rfl⟩
theorem rnan_64 (w:World):Cs 20 #[vI 64] w (vU 9221120237041090560):=by
 have hor:bits BinOp.or IntKind.u64 9218868437227405312 2251799813685248=9221120237041090560:=by decide
 have H1:=fun W=>rinf_64 W
 have H2:=fun W=>rfrac_64 W
 go_enter Tryz.func20,Tryz.ntmps20
 go_wp2_with fail
 refine (H1 _).mono ?_
 rintro e w ⟨rfl,rfl⟩
 go_wp2_with fail
 refine (H2 _).mono ?_
 rintro e w ⟨rfl,rfl⟩
 go_wp2
 go_ret
 exact ⟨rfl,rfl⟩
theorem rof_nan {z:Int}{X:Value}{c:Bool}{d:ByteArray}{q:Int}{u:Bool}{m:Nat}{e:Int}{r:Bool}{w:World}(N:∀ W,Cs 20 #[vI z] W X) :
 Cb 32 #[ptV c 4 d q u (m:Int) e r,vI z] w (.tuple #[X,vI 0]):=by
 have B0:Hid (Bl w (w.alloc (.cells #[.bool c,vI 4,.string d,vI q,.bool u,vU (m:Int),vI e,.bool r] 41))):=bz _ _
 have G0:Hid (PtB (w.alloc (.cells #[.bool c,vI 4,.string d,vI q,.bool u,vU (m:Int),vI e,.bool r] 41)) w.heap.size c 4 d q u (m:Int) e r):=PtB.new w _ _ _ _ _ _ _ _ _
 unfold ptV at *
 obtain ⟨_,a0,a1,a2,a3,a4,a5,a6,a7⟩:=G0.out
 go_enter Tryz.func32,Tryz.ntmps32
 go_wp2_with fail
 refine (N _).mono ?_
 rintro o w1 ⟨rfl,e1⟩
 subst e1
 go_wp2
 go_ret2
 exact ⟨rfl,B0.out⟩
theorem rof_inf {z:Int}{I:Int}{X:Value}{c:Bool}{d:ByteArray}{q:Int}{u:Bool}{m:Nat}{e:Int}{r:Bool}{w:World}(N:∀ W,Cs 22 #[vI z] W (vU I)) (SG:∀ W,Cs 23 #[.bool c,vU I,vI z] W X) :
 Cb 32 #[ptV c 3 d q u (m:Int) e r,vI z] w (.tuple #[X,vI 0]):=by
 have B0:Hid (Bl w (w.alloc (.cells #[.bool c,vI 3,.string d,vI q,.bool u,vU (m:Int),vI e,.bool r] 41))):=bz _ _
 have G0:Hid (PtB (w.alloc (.cells #[.bool c,vI 3,.string d,vI q,.bool u,vU (m:Int),vI e,.bool r] 41)) w.heap.size c 3 d q u (m:Int) e r):=PtB.new w _ _ _ _ _ _ _ _ _
 unfold ptV at *
 obtain ⟨_,a0,a1,a2,a3,a4,a5,a6,a7⟩:=G0.out
 go_enter Tryz.func32,Tryz.ntmps32
 go_wp2
 go_region_held3 (fun w'=>w'.cell? ⟨w.heap.size,0,none⟩=some (.bool c)) (exact a0) (first | (go_at_call 22;refine (N _).mono ?_;rintro o w1 ⟨rfl,rfl⟩) | (go_at_call 23;refine (SG _).mono ?_;rintro o w1 ⟨rfl,rfl⟩))
 all_goals
  go_wp2
  go_ret2
  exact ⟨rfl,by first | exact B0.out | exact B0.out.drew | exact below_drewN B0.out _⟩
theorem rof_hex {z:Int}{X E:Value}{c:Bool}{d:ByteArray}{q:Int}{u:Bool}{m:Nat}{e:Int}{r:Bool}{w:World}(N:∀ W,Cb 54 #[vI z,.bool c,vU (m:Int),vI e,.bool r] W (.tuple #[X,E])) :
 Cb 32 #[ptV c 2 d q u (m:Int) e r,vI z] w (.tuple #[X,E]):=by
 have B0:Hid (Bl w (w.alloc (.cells #[.bool c,vI 2,.string d,vI q,.bool u,vU (m:Int),vI e,.bool r] 41))):=bz _ _
 have G0:Hid (PtB (w.alloc (.cells #[.bool c,vI 2,.string d,vI q,.bool u,vU (m:Int),vI e,.bool r] 41)) w.heap.size c 2 d q u (m:Int) e r):=PtB.new w _ _ _ _ _ _ _ _ _
 unfold ptV at *
 obtain ⟨_,a0,a1,a2,a3,a4,a5,a6,a7⟩:=G0.out
 go_enter Tryz.func32,Tryz.ntmps32
 go_wp2_with fail
 refine (N _).mono ?_
 rintro o w1 ⟨rfl,b1⟩
 have B1:Hid (Bl w w1):=B0.out.trans (b1.mono B0.out.size)
 clear b1
 go_wp2
 go_ret2
 exact ⟨rfl,B1.out⟩
theorem rof_dec {z:Int}{I:Int}{X E:Value}{c:Bool}{d:ByteArray}{q:Int}{u:Bool}{m:Nat}{e:Int}{r:Bool}{w:World}(N:∀ W,Cb 55 #[dcV d q u,vI z] W (.tuple #[vU I,E])) (SG:∀ W,Cs 23 #[.bool c,vU I,vI z] W X) :
 Cb 32 #[ptV c 1 d q u (m:Int) e r,vI z] w (.tuple #[X,E]):=by
 unfold dcV at *
 have B0:Hid (Bl w (w.alloc (.cells #[.bool c,vI 1,.string d,vI q,.bool u,vU (m:Int),vI e,.bool r] 41))):=bz _ _
 have G0:Hid (PtB (w.alloc (.cells #[.bool c,vI 1,.string d,vI q,.bool u,vU (m:Int),vI e,.bool r] 41)) w.heap.size c 1 d q u (m:Int) e r):=PtB.new w _ _ _ _ _ _ _ _ _
 unfold ptV at *
 obtain ⟨_,a0,a1,a2,a3,a4,a5,a6,a7⟩:=G0.out
 go_enter Tryz.func32,Tryz.ntmps32
 go_wp2_with fail
 refine (N _).mono ?_
 rintro o w1 ⟨rfl,b1⟩
 have B1:Hid (Bl w w1):=B0.out.trans (b1.mono B0.out.size)
 have G1:Hid (PtB w1 w.heap.size c 1 d q u (m:Int) e r):=G0.out.step b1
 clear b1 a0 a1 a2 a3 a4 a5 a6 a7
 obtain ⟨_,a0,a1,_⟩:=G1.out
 go_wp2_with fail
 refine (SG _).mono ?_
 rintro o w2 ⟨rfl,e2⟩
 subst e2
 go_wp2
 go_ret2
 exact ⟨rfl,B1.out⟩
theorem rof_ok {z:Int}{g n f T:Nat}{L:Int}(hz:Fz z g n f T L) {P:Pt}(hP:POk P) (w:World) :
 Cb 32 #[spV P,vI z] w (.tuple #[vU (((ofP g f T L P).1:Nat):Int),vI (if (ofP g f T L P).2 then 4 else 0)]):=by
 obtain ⟨f0,T2,hn,ng,g2⟩:=fz_nums hz
 obtain ⟨c,k,dd,q,u,m,e,r⟩:=P
 have hv:spV ⟨c,k,dd,q,u,m,e,r⟩=ptV c k (sB dd) q u (m:Int) e r:=rfl
 rw [hv]
 rcases hP with ⟨rfl,hd⟩ | ⟨rfl,hm,h0,h1,hc⟩ | rfl | ⟨rfl,rfl⟩
 · have xl:=(nrX_le (f:=f) (T:=T) (L:=L) (d:=sB dd) (p:=q) (c:=u) (by omega)).1
   exact rof_dec (fun W=>nearest16 hz hd W) (fun W=>rsigned_z2 hz xl c W)
 · exact rof_hex (fun W=>rwhole_ok hz c r hm (by change -1099511627776≤e at h0;omega) (by change e≤1099511627776 at h1;omega) W)
 · exact rof_inf (fun W=>rinf_z hz W) (fun W=>rsigned_z2 hz (Nat.le_refl _) c W)
 · refine rof_nan (fun W=>?_)
   rcases hz with ⟨rfl,_,_,rfl,rfl,_⟩ | ⟨rfl,_,_,rfl,rfl,_⟩
   · exact rnan_32 W
   · exact rnan_64 W
theorem rprs_bad {z:Int}{s:ByteArray}{w:World}(SZ:∀ W,Cs 19 #[vI z] W (.bool false)) :
 Cb 9 #[.string s,vI z] w (.tuple #[vU 0,vI 5]):=by
 go_enter Tryz.func9,Tryz.ntmps9
 go_wp2_with fail
 refine (SZ _).mono ?_
 rintro o w1 ⟨rfl,e1⟩
 subst e1
 go_wp2
 go_ret2
 exact ⟨rfl,Below.refl _ _⟩
theorem rprs_no {z:Int}{s:ByteArray}{w:World}(SZ:∀ W,Cs 19 #[vI z] W (.bool true))
 (SC:∀ W,Cb 15 #[.string s] W (.tuple #[.agg #[.bool false,vI 0,.string ⟨#[]⟩,vI 0,.bool false,vU 0,vI 0,.bool false],vI 3])) :
 Cb 9 #[.string s,vI z] w (.tuple #[vU 0,vI 3]):=by
 go_enter Tryz.func9,Tryz.ntmps9
 go_wp2_with fail
 refine (SZ _).mono ?_
 rintro o w1 ⟨rfl,e1⟩
 subst e1
 go_wp2_with fail
 refine (SC _).mono ?_
 rintro o w2 ⟨rfl,b2⟩
 have B2:Hid (Bl w1 (w2.alloc (.cells #[.bool false,vI 0,.string ⟨#[]⟩,vI 0,.bool false,vU 0,vI 0,.bool false] 41))):=b2.alloc b2.size _
 clear b2
 go_wp2
 go_ret2
 exact ⟨rfl,B2.out⟩
theorem rprs_yes {z:Int}{s:ByteArray}{w:World}{X E:Value}{c:Bool}{kd:Int}{d:ByteArray}{q:Int}{u:Bool}{m:Nat}{e:Int}{r:Bool}(SZ:∀ W,Cs 19 #[vI z] W (.bool true))
 (SC:∀ W,Cb 15 #[.string s] W (.tuple #[ptV c kd d q u (m:Int) e r,vI 0]))
 (VL:∀ W,Cb 32 #[ptV c kd d q u (m:Int) e r,vI z] W (.tuple #[X,E])) :
 Cb 9 #[.string s,vI z] w (.tuple #[X,E]):=by
 unfold ptV at *
 go_enter Tryz.func9,Tryz.ntmps9
 go_wp2_with fail
 refine (SZ _).mono ?_
 rintro o w1 ⟨rfl,e1⟩
 subst e1
 go_wp2_with fail
 refine (SC _).mono ?_
 rintro o w2 ⟨rfl,b2⟩
 have B2:Hid (Bl w1 (w2.alloc (.cells #[.bool c,vI kd,.string d,vI q,.bool u,vU (m:Int),vI e,.bool r] 41))):=b2.alloc b2.size _
 clear b2
 go_wp2_with fail
 refine (VL _).mono ?_
 rintro o w3 ⟨rfl,b3⟩
 have B3:Hid (Bl w1 w3):=B2.out.trans (b3.mono B2.out.size)
 clear b3
 go_wp2
 go_ret2
 exact ⟨rfl,B3.out⟩
theorem rpre_bad {z:Int}{s:ByteArray}{w:World}(SZ:∀ W,Cs 19 #[vI z] W (.bool false)) :
 Cb 11 #[.string s,vI z] w (.tuple #[vU 0,vI 0,vI 5]):=by
 go_enter Tryz.func11,Tryz.ntmps11
 go_wp2_with fail
 refine (SZ _).mono ?_
 rintro o w1 ⟨rfl,e1⟩
 subst e1
 go_wp2
 go_ret3
 exact ⟨rfl,Below.refl _ _⟩
theorem rpre_no {z:Int}{s:ByteArray}{w:World}(SZ:∀ W,Cs 19 #[vI z] W (.bool true))
 (SC:∀ W,Cb 34 #[.string s] W (.tuple #[.agg #[.bool false,vI 0,.string ⟨#[]⟩,vI 0,.bool false,vU 0,vI 0,.bool false],vI 0,vI 3])) :
 Cb 11 #[.string s,vI z] w (.tuple #[vU 0,vI 0,vI 3]):=by
 go_enter Tryz.func11,Tryz.ntmps11
 go_wp2_with fail
 refine (SZ _).mono ?_
 rintro o w1 ⟨rfl,e1⟩
 subst e1
 go_wp2_with fail
 refine (SC _).mono ?_
 rintro o w2 ⟨rfl,b2⟩
 have B2:Hid (Bl w1 (w2.alloc (.cells #[.bool false,vI 0,.string ⟨#[]⟩,vI 0,.bool false,vU 0,vI 0,.bool false] 41))):=b2.alloc b2.size _
 clear b2
 go_wp2
 go_ret3
 exact ⟨rfl,B2.out⟩
theorem rpre_yes {z:Int}{s:ByteArray}{w:World}{X E:Value}{N:Value}{c:Bool}{kd:Int}{d:ByteArray}{q:Int}{u:Bool}{m:Nat}{e:Int}{r:Bool}(SZ:∀ W,Cs 19 #[vI z] W (.bool true))
 (SC:∀ W,Cb 34 #[.string s] W (.tuple #[ptV c kd d q u (m:Int) e r,N,vI 0]))
 (VL:∀ W,Cb 32 #[ptV c kd d q u (m:Int) e r,vI z] W (.tuple #[X,E])) :
 Cb 11 #[.string s,vI z] w (.tuple #[X,N,E]):=by
 unfold ptV at *
 go_enter Tryz.func11,Tryz.ntmps11
 go_wp2_with fail
 refine (SZ _).mono ?_
 rintro o w1 ⟨rfl,e1⟩
 subst e1
 go_wp2_with fail
 refine (SC _).mono ?_
 rintro o w2 ⟨rfl,b2⟩
 have B2:Hid (Bl w1 (w2.alloc (.cells #[.bool c,vI kd,.string d,vI q,.bool u,vU (m:Int),vI e,.bool r] 41))):=b2.alloc b2.size _
 clear b2
 go_wp2_with fail
 refine (VL _).mono ?_
 rintro o w3 ⟨rfl,b3⟩
 have B3:Hid (Bl w1 w3):=B2.out.trans (b3.mono B2.out.size)
 clear b3
 go_wp2
 go_ret3
 exact ⟨rfl,B3.out⟩
theorem rparse_ok {z : Int} {g n f T : Nat} {L : Int} (hz : Fz z g n f T L) {l : List UInt8} (hl : l.length ≤ 1048576) (w : World) :
    Calls Tryz.prog 9 #[.string (sB l), .int .i64 z] w fun o w' => o = .returned (.tuple #[.int .u64 (((prA g f T L l).1 : Nat) : Int), .int .i64 (prA g f T L l).2]) ∧ Below w.heap.size w w' := by
  have SC := fun W => rscan_any l hl W
  unfold prA
  cases h : scn l with
  | none =>
    rw [h] at SC
    exact rprs_no (fun W => rsize_z hz W) SC
  | some P =>
    rw [h] at SC
    exact rprs_yes (fun W => rsize_z hz W) SC (fun W => rof_ok hz (scn_ok h) W)
theorem rpref_ok {z : Int} {g n f T : Nat} {L : Int} (hz : Fz z g n f T L) {l : List UInt8} (hl : l.length ≤ 1048576) (w : World) :
    Calls Tryz.prog 11 #[.string (sB l), .int .i64 z] w fun o w' => o = .returned (.tuple #[.int .u64 (((pxA g f T L l).1 : Nat) : Int), .int .i64 (((pxA g f T L l).2.1 : Nat) : Int), .int .i64 (pxA g f T L l).2.2]) ∧ Below w.heap.size w w' := by
  have SC := fun W => rprefix_any l hl W
  unfold pxA
  cases h : pfx l with
  | none =>
    rw [h] at SC
    exact rpre_no (fun W => rsize_z hz W) SC
  | some x =>
    obtain ⟨P, k⟩ := x
    rw [h] at SC
    exact rpre_yes (fun W => rsize_z hz W) SC (fun W => rof_ok hz (pfx_ok h) W)
theorem fz_of (z:Int):Sn z ∨ ∃ g n f T L,Fz z g n f T L:=by
 by_cases h:z=32
 · exact .inr ⟨_,_,_,_,_,.inl ⟨h,rfl,rfl,rfl,rfl,rfl⟩⟩
 · by_cases h':z=64
   · exact .inr ⟨_,_,_,_,_,.inr ⟨h',rfl,rfl,rfl,rfl,rfl⟩⟩
   · exact .inl ⟨h,h'⟩
theorem preads_walk {s:ByteArray}{z:Int}{A B N:Nat}{k j:Int}{w:World}(hT:Tab w) (hg:ErrT w)
 (P:∀ W,Tab W → Calls Tryz.prog 8 #[.string s,vI z,.pointer none] W fun o w'=>∃ v,o=.returned (.tuple #[vU (A:Int),v])∧ErV w' k cPrs s v∧Bl W w')
 (R:∀ W,Cb 9 #[.string s,vI z] W (.tuple #[vU (A:Int),vI k]))
 (Q:∀ W,Tab W → Calls Tryz.prog 10 #[.string s,vI z,.pointer none] W fun o w'=>∃ v,o=.returned (.tuple #[vU (B:Int),vI (N:Int),v])∧ErV w' j cPfx s v∧Bl W w')
 (U:∀ W,Cb 11 #[.string s,vI z] W (.tuple #[vU (B:Int),vI (N:Int),vI j])) :
 Cb 3 #[.string s,vI z] w (.bool true):=by
 have HT:Hid (Tab w∧ErrT w):=⟨hT,hg⟩
 have qA:((A:Int) == (A:Int))=true:=beq_self_eq_true _
 have qB:((B:Int) == (B:Int))=true:=beq_self_eq_true _
 have qN:((N:Int) == (N:Int))=true:=beq_self_eq_true _
 have WK:=fun W (h:Tab W) (h':ErrT W)=>works18 W h h'
 clear hT hg
 go_enter Tryz.func3,Tryz.ntmps3
 go_wp2_with fail
 refine (P _ HT.out.1).mono ?_
 rintro o w1 ⟨v1,rfl,e1,b1⟩
 have B1:Hid (Bl w w1):=b1
 have E1:Hid (ErV w1 k cPrs s v1):=e1
 clear b1 e1 P
 go_wp2_with fail
 refine (R _).mono ?_
 rintro o w2 ⟨rfl,b2⟩
 have B2:Hid (Bl w w2):=B1.out.trans (b2.mono B1.out.size)
 have E2:Hid (ErV w2 k cPrs s v1):=E1.out.below b2 (Nat.le_refl _)
 clear b2 E1 R
 go_wp2_with fail
 refine (Q _ (HT.out.1.next B2.out)).mono ?_
 rintro o w3 ⟨v2,rfl,e3,b3⟩
 have B3:Hid (Bl w w3):=B2.out.trans (b3.mono B2.out.size)
 have E3:Hid (ErV w3 k cPrs s v1∧ErV w3 j cPfx s v2):=⟨E2.out.below b3 (Nat.le_refl _),e3⟩
 clear b3 e3 E2 Q
 go_wp2_with fail
 refine (U _).mono ?_
 rintro o w4 ⟨rfl,b4⟩
 have B4:Hid (Bl w w4):=B3.out.trans (b4.mono B3.out.size)
 have E4:Hid (ErV w4 k cPrs s v1∧ErV w4 j cPfx s v2):=⟨E3.out.1.below b4 (Nat.le_refl _),E3.out.2.below b4 (Nat.le_refl _)⟩
 clear b4 E3 U
 have TL:=told18_any E4.out.1 (HT.out.2.below B4.out HT.out.2.pos)
 unfold cPrs at TL
 go_wp2_with fail
 refine TL.mono ?_
 rintro o w5 ⟨rfl,b5⟩
 have B5:Hid (Bl w w5):=B4.out.trans (b5.mono B4.out.size)
 have E5:Hid (ErV w5 j cPfx s v2):=E4.out.2.below b5 (Nat.le_refl _)
 clear b5 TL E4
 have TL:=told18_any E5.out (HT.out.2.below B5.out HT.out.2.pos)
 unfold cPfx at TL
 go_wp2_with fail
 refine TL.mono ?_
 rintro o w6 ⟨rfl,b6⟩
 have B6:Hid (Bl w w6):=B5.out.trans (b6.mono B5.out.size)
 clear b6 TL E5
 go_wp2_with fail
 refine (WK _ (HT.out.1.next B6.out) (HT.out.2.below B6.out HT.out.2.pos)).mono ?_
 rintro o w7 ⟨rfl,b7⟩
 have B7:Hid (Bl w w7):=B6.out.trans (b7.mono B6.out.size)
 clear b7
 go_wp2
 go_ret
 exact ⟨rfl,B7.out⟩
theorem preads_law (l:List UInt8) (hl:l.length≤1048576) (z:Int) (w:World) (hT:Tab w) (hg:ErrT w) :
 Cb 3 #[.string (sB l),vI z] w (.bool true):=by
 rcases fz_of z with h | ⟨g,n,f,T,L,hz⟩
 · exact preads_walk (A:=0) (B:=0) (N:=0) (k:=5) (j:=5) hT hg (fun W _=>parse_no h hl none W) (fun W=>rprs_bad fun W=>rsize_no h W) (fun W _=>prefix_no h hl none W) (fun W=>rpre_bad fun W=>rsize_no h W)
 · obtain ⟨M,K,hx⟩:∃ M K,Xz z f T L M K:=by
    rcases hz with ⟨rfl,_,_,rfl,rfl,rfl⟩ | ⟨rfl,_,_,rfl,rfl,rfl⟩
    · exact ⟨_,_,.inl ⟨rfl,rfl,rfl,rfl,rfl,rfl⟩⟩
    · exact ⟨_,_,.inr ⟨rfl,rfl,rfl,rfl,rfl,rfl⟩⟩
   exact preads_walk hT hg (fun W t=>parse_nil hz t hl) (fun W=>rparse_ok hz hl W) (fun W t=>prefix_ok hz hx t hl) (fun W=>rpref_ok hz hl W)
end Go.Proofs.YtiminkommimgdaaGreatDoor
