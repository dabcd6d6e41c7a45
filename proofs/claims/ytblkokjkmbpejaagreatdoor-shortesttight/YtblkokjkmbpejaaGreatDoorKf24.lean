/-
  Holds: VBtB VBtC VBtD.
-/
import Derived.Laws.BitsAllLaws
import Derived.Test.YtblkokjkmbpejaaGreatDoorRows
import Derived.WalkKit
import Derived.BigQuiet
import Derived.Deep.RegionHeld3
import Derived.Deep.DeepCutAuto
import Derived.WalkSpells
import Derived.WalkLawsBesides
import Derived.Lib.Mul64
import Derived.Test.YtblkokjkmbpejaaGreatDoorKf4
import Derived.Test.YtblkokjkmbpejaaGreatDoorKf23
set_option maxRecDepth 100000
set_option maxHeartbeats 4000000
namespace Go.Proofs.YtblkokjkmbpejaaGreatDoor
open Go.RowKit
structure FlB (W:World) (K:Nat) (a b c d:Value):Prop where
 lt:K<W.heap.size
 a0:W.cell? ⟨K,0,none⟩=some a
 a1:W.cell? ⟨K,1,none⟩=some b
 a2:W.cell? ⟨K,2,none⟩=some c
 a3:W.cell? ⟨K,3,none⟩=some d
 f0:W.frozen? ⟨K,0,none⟩=false
 f1:W.frozen? ⟨K,1,none⟩=false
 f2:W.frozen? ⟨K,2,none⟩=false
 f3:W.frozen? ⟨K,3,none⟩=false
theorem FlB.step {W W':World}{K:Nat}{a b c d:Value}(h:FlB W K a b c d) (hb:Bl W W'):FlB W' K a b c d:=by
 have k:=fun o=>hb.cell (p:=⟨K,o,none⟩) h.lt
 have j:=fun o=>hb.frozen (p:=⟨K,o,none⟩) h.lt
 exact ⟨Nat.lt_of_lt_of_le h.lt hb.size,(k 0).trans h.a0,(k 1).trans h.a1,(k 2).trans h.a2,(k 3).trans h.a3,(j 0).trans h.f0,(j 1).trans h.f1,(j 2).trans h.f2,(j 3).trans h.f3⟩
theorem FlB.new (W:World) (a b c d:Value) (T:TypeId):FlB (W.alloc (.cells #[a,b,c,d] T)) W.heap.size a b c d :=
 ⟨by simp,by simp,by simp,by simp,by simp,World.frozen?_alloc_new _ _ _ _,World.frozen?_alloc_new _ _ _ _,World.frozen?_alloc_new _ _ _ _,World.frozen?_alloc_new _ _ _ _⟩
theorem FlB.newAt (W:World) (a b c d:Value) (T:TypeId) {K:Nat}(h:K=W.heap.size):FlB (W.alloc (.cells #[a,b,c,d] T)) K a b c d:=by
 subst h;exact FlB.new W a b c d T
theorem FlB.drew {W:World}{K:Nat}{a b c d:Value}(h:FlB W K a b c d):FlB W.drew K a b c d:=h.step (Below.refl _ _).drew
theorem FlB.al {W:World}{K:Nat}{a b c d:Value}(h:FlB W K a b c d) (o:Obj):FlB (W.alloc o) K a b c d:=h.step (bz _ _)
theorem FlB.far {W:World}{K:Nat}{a b c d:Value}(h:FlB W K a b c d) (p:Addr) (v:Value) (n:K ≠ p.block):FlB (W.setCell p v) K a b c d:=by
 have e:(W.setCell p v).heap[K]?=W.heap[K]?:=Below.heap_setCell W p v K n
 have k:=fun o=>World.cell?_of_block (w:=W) (w':=W.setCell p v) (a:=⟨K,o,none⟩) e
 have j:=fun o=>World.frozen?_of_block (w:=W) (w':=W.setCell p v) (a:=⟨K,o,none⟩) e
 have z:K<(W.setCell p v).heap.size:=by simpa using h.lt
 exact ⟨z,(k 0).trans h.a0,(k 1).trans h.a1,(k 2).trans h.a2,(k 3).trans h.a3,(j 0).trans h.f0,(j 1).trans h.f1,(j 2).trans h.f2,(j 3).trans h.f3⟩
theorem FlB.set0 {W:World}{K:Nat}{a b c d:Value}(h:FlB W K a b c d) (v:Value):FlB (W.setCell ⟨K,0,none⟩ v) K v b c d:=by
 obtain ⟨z,a0,a1,a2,a3,f0,f1,f2,f3⟩:=h
 exact ⟨by simpa using z,World.cell?_setCell_same _ _ _ a0,(World.cell?_setCell_other _ ⟨K,0,none⟩ ⟨K,1,none⟩ v (by intro e;cases e)).trans a1,(World.cell?_setCell_other _ ⟨K,0,none⟩ ⟨K,2,none⟩ v (by intro e;cases e)).trans a2,(World.cell?_setCell_other _ ⟨K,0,none⟩ ⟨K,3,none⟩ v (by intro e;cases e)).trans a3,(World.frozen?_setCell ..).trans f0,(World.frozen?_setCell ..).trans f1,(World.frozen?_setCell ..).trans f2,(World.frozen?_setCell ..).trans f3⟩
theorem FlB.set1 {W:World}{K:Nat}{a b c d:Value}(h:FlB W K a b c d) (v:Value):FlB (W.setCell ⟨K,1,none⟩ v) K a v c d:=by
 obtain ⟨z,a0,a1,a2,a3,f0,f1,f2,f3⟩:=h
 exact ⟨by simpa using z,(World.cell?_setCell_other _ ⟨K,1,none⟩ ⟨K,0,none⟩ v (by intro e;cases e)).trans a0,World.cell?_setCell_same _ _ _ a1,(World.cell?_setCell_other _ ⟨K,1,none⟩ ⟨K,2,none⟩ v (by intro e;cases e)).trans a2,(World.cell?_setCell_other _ ⟨K,1,none⟩ ⟨K,3,none⟩ v (by intro e;cases e)).trans a3,(World.frozen?_setCell ..).trans f0,(World.frozen?_setCell ..).trans f1,(World.frozen?_setCell ..).trans f2,(World.frozen?_setCell ..).trans f3⟩
theorem FlB.set2 {W:World}{K:Nat}{a b c d:Value}(h:FlB W K a b c d) (v:Value):FlB (W.setCell ⟨K,2,none⟩ v) K a b v d:=by
 obtain ⟨z,a0,a1,a2,a3,f0,f1,f2,f3⟩:=h
 exact ⟨by simpa using z,(World.cell?_setCell_other _ ⟨K,2,none⟩ ⟨K,0,none⟩ v (by intro e;cases e)).trans a0,(World.cell?_setCell_other _ ⟨K,2,none⟩ ⟨K,1,none⟩ v (by intro e;cases e)).trans a1,World.cell?_setCell_same _ _ _ a2,(World.cell?_setCell_other _ ⟨K,2,none⟩ ⟨K,3,none⟩ v (by intro e;cases e)).trans a3,(World.frozen?_setCell ..).trans f0,(World.frozen?_setCell ..).trans f1,(World.frozen?_setCell ..).trans f2,(World.frozen?_setCell ..).trans f3⟩
theorem FlB.set3 {W:World}{K:Nat}{a b c d:Value}(h:FlB W K a b c d) (v:Value):FlB (W.setCell ⟨K,3,none⟩ v) K a b c v:=by
 obtain ⟨z,a0,a1,a2,a3,f0,f1,f2,f3⟩:=h
 exact ⟨by simpa using z,(World.cell?_setCell_other _ ⟨K,3,none⟩ ⟨K,0,none⟩ v (by intro e;cases e)).trans a0,(World.cell?_setCell_other _ ⟨K,3,none⟩ ⟨K,1,none⟩ v (by intro e;cases e)).trans a1,(World.cell?_setCell_other _ ⟨K,3,none⟩ ⟨K,2,none⟩ v (by intro e;cases e)).trans a2,World.cell?_setCell_same _ _ _ a3,(World.frozen?_setCell ..).trans f0,(World.frozen?_setCell ..).trans f1,(World.frozen?_setCell ..).trans f2,(World.frozen?_setCell ..).trans f3⟩
theorem yN {b:Nat}(h:b<4294967296) (w:World):Cb 143 #[.agg #[vU 2147483648,vU 2139095040,vI 23,vI (-149)],vU (b:Int)] w (.agg #[.bool (uN 2147483648 2139095040 b),vI (cl 2139095040 (mg 2147483648 b)),vU ((uM 2139095040 23 (mg 2147483648 b):Nat):Int),vI (uE 2139095040 23 (-149) (mg 2147483648 b))]):=by
 have HN:=fun W=>pP h W
 have HC:=fun W=>mV h W
 have HM:=fun W=>iD h W
 have hl:=iS (g:=2147483648) (by decide) b
 have HF:=fun W=>aBz hl W
 unfold uN uM uE
 generalize mg 2147483648 b=x at *
 generalize ng 2147483648 b=c at *
 generalize mt 23 x=M at *
 generalize xp 23 (-149) x=X at *
 have HQ:Hid (cl 2139095040 x=1 \/ cl 2139095040 x=2 \/ cl 2139095040 x=3 \/ cl 2139095040 x=4):=by
  rcases cA 2139095040 x with ⟨_,q⟩ | ⟨_,_,q⟩ | ⟨_,_,q⟩ | ⟨_,q⟩
  . exact .inl q
  . exact .inr (.inl q)
  . exact .inr (.inr (.inl q))
  . exact .inr (.inr (.inr q))
 generalize cl 2139095040 x=C at *
 have H1:Hid (FlB ((w.alloc (.cells #[vU 2147483648,vU 2139095040,vI 23,vI (-149)] 185)).alloc (.cells #[.bool false,vI 0,vU 0,vI 0] 128)) w.heap.size _ _ _ _):=(FlB.new w _ _ _ _ _).al _
 have H2:Hid (FlB ((w.alloc (.cells #[vU 2147483648,vU 2139095040,vI 23,vI (-149)] 185)).alloc (.cells #[.bool false,vI 0,vU 0,vI 0] 128)) (w.heap.size+1) _ _ _ _):=FlB.newAt _ _ _ _ _ _ (by simp)
 have HB:Hid (Bl w ((w.alloc (.cells #[vU 2147483648,vU 2139095040,vI 23,vI (-149)] 185)).alloc (.cells #[.bool false,vI 0,vU 0,vI 0] 128))):=(bz _ _).alloc (by simp) _
 go_enter Tryz.func143,Tryz.ntmps143
 go_upto_region 1 with fail
 go_cut [5] (fun p wx=>∃ K,p=.pointer (some ⟨K,0,none⟩)/\w.heap.size+2<=K/\Bl w wx/\FlB wx w.heap.size (vU 2147483648) (vU 2139095040) (vI 23) (vI (-149))/\FlB wx (w.heap.size+1) (.bool false) (vI 0) (vU 0) (vI 0)/\FlB wx K (.bool c) (vI C) (vU 0) (vI 0))
 case first =>
  go_region_held3 (fun w'=>w'.cell? ⟨w.heap.size,0,none⟩=some (vU 2147483648)/\w'.cell? ⟨w.heap.size,1,none⟩=some (vU 2139095040)/\w'.cell? ⟨w.heap.size,2,none⟩=some (vI 23)/\w'.cell? ⟨w.heap.size,3,none⟩=some (vI (-149))) (simp [*,go_sem,World.cell?_alloc_lt])
   (first
    | (go_at_call 167;refine (HN _).mono ?_;rintro x1 w2 ⟨rfl,hb2⟩;obtain ⟨hc2,hf2⟩:=mQ hb2;have hz2:=hb2.size;(try simp at hz2);have y2:w.heap.size<w2.heap.size:=(by omega);have v2:w.heap.size+1<w2.heap.size:=(by omega);(first | (have u2:w.heap.size+1+1<w2.heap.size:=(by omega)) | skip);have HB2:Hid (Below _ _ _):=hb2;clear hb2)
    | (go_at_call 168;refine (HC _).mono ?_;rintro x2 w3 ⟨rfl,hb3⟩;obtain ⟨hc3,hf3⟩:=mQ hb3;have hz3:=hb3.size;(try simp at hz3);have y3:w.heap.size<w3.heap.size:=(by omega);have v3:w.heap.size+1<w3.heap.size:=(by omega);have HB3:Hid (Below _ _ _):=hb3;clear hb3))
  all_goals
   go_wp2_with fail
   go_meet
   first
    | exact ⟨w3.heap.size,rfl,by omega,(HB.out.drew.trans (HB2.out.mono (by simp;omega))).trans (HB3.out.mono (by omega)) |>.alloc (by omega) _,((H1.out.drew.step HB2.out).step HB3.out).al _,((H2.out.drew.step HB2.out).step HB3.out).al _,FlB.new _ _ _ _ _ _⟩
    | exact ⟨w2.heap.size,rfl,by omega,((((((HB.out.drew.trans (HB2.out.mono (by simp;omega))).alloc (by omega) _).trans (HB3.out.mono (by simp;omega))).setCell (by show w.heap.size<=w2.heap.size;omega) _).setCell (by show w.heap.size<=w2.heap.size;omega) _).setCell (by show w.heap.size<=w2.heap.size;omega) _).setCell (by show w.heap.size<=w2.heap.size;omega) _,(((((H1.out.drew.step HB2.out).al _).step HB3.out).far _ _ (by show w.heap.size ≠ w2.heap.size;omega)).far _ _ (by show w.heap.size ≠ w2.heap.size;omega)).far _ _ (by show w.heap.size ≠ w2.heap.size;omega) |>.far _ _ (by show w.heap.size ≠ w2.heap.size;omega),(((((H2.out.drew.step HB2.out).al _).step HB3.out).far _ _ (by show w.heap.size+1 ≠ w2.heap.size;omega)).far _ _ (by show w.heap.size+1 ≠ w2.heap.size;omega)).far _ _ (by show w.heap.size+1 ≠ w2.heap.size;omega) |>.far _ _ (by show w.heap.size+1 ≠ w2.heap.size;omega),(((((FlB.new _ _ _ _ _ _).step HB3.out).set0 _).set1 _).set2 _).set3 _⟩
    | exact ⟨w.heap.size+1+1,rfl,by omega,(((((HB.out.alloc (by simp;omega) _).drew.trans (HB2.out.mono (by simp;omega))).trans (HB3.out.mono (by omega))).setCell (by show w.heap.size<=w.heap.size+1+1;omega) _).setCell (by show w.heap.size<=w.heap.size+1+1;omega) _).setCell (by show w.heap.size<=w.heap.size+1+1;omega) _ |>.setCell (by show w.heap.size<=w.heap.size+1+1;omega) _,(((((H1.out.al _).drew.step HB2.out).step HB3.out).far _ _ (by show w.heap.size ≠ w.heap.size+1+1;omega)).far _ _ (by show w.heap.size ≠ w.heap.size+1+1;omega)).far _ _ (by show w.heap.size ≠ w.heap.size+1+1;omega) |>.far _ _ (by show w.heap.size ≠ w.heap.size+1+1;omega),(((((H2.out.al _).drew.step HB2.out).step HB3.out).far _ _ (by show w.heap.size+1 ≠ w.heap.size+1+1;omega)).far _ _ (by show w.heap.size+1 ≠ w.heap.size+1+1;omega)).far _ _ (by show w.heap.size+1 ≠ w.heap.size+1+1;omega) |>.far _ _ (by show w.heap.size+1 ≠ w.heap.size+1+1;omega),((((((FlB.newAt _ _ _ _ _ _ (by simp)).drew.step HB2.out).step HB3.out).set0 _).set1 _).set2 _).set3 _⟩
 case rest =>
  clear H1 H2 HB HN HC
  obtain ⟨K,rfl,hK,bl,h1,h2,h3⟩:=hcut
  have BL:Hid (Bl w wc):=bl
  have H1:Hid (FlB _ _ _ _ _ _):=h1
  have H2:Hid (FlB _ _ _ _ _ _):=h2
  have H3:Hid (FlB _ _ _ _ _ _):=h3
  obtain ⟨l1,a0,a1,a2,a3,_,_,_,_⟩:=h1
  obtain ⟨l2,b0,b1,b2,b3,e0,e1,e2,e3⟩:=h2
  obtain ⟨l3,c0,c1,c2,c3,g0,g1,g2,g3⟩:=h3
  have n1:¬ K=w.heap.size+1:=by omega
  have n2:¬ w.heap.size+1=K:=by omega
  have n3:¬ K=w.heap.size:=by omega
  have n4:¬ w.heap.size=K:=by omega
  clear bl
  rcases HQ.out with q | q | q | q
  . subst q
    go_wp2
    refine bodyPost_ret (v:=.agg #[.bool c,vI 1,vU 0,vI 0]) (by simp [results,Tryz.results143,go_sem,World.cell?_setCell_same,World.cell?_setCell_other, *]) rfl ⟨rfl,?_⟩
    exact (((BL.out.setCell (by show w.heap.size<=w.heap.size+1;omega) _).setCell (by show w.heap.size<=w.heap.size+1;omega) _).setCell (by show w.heap.size<=w.heap.size+1;omega) _).setCell (by show w.heap.size<=w.heap.size+1;omega) _
  . subst q
    go_wp2
    go_region_held3 (fun w'=>w'.cell? ⟨w.heap.size,0,none⟩=some (vU 2147483648)/\w'.cell? ⟨w.heap.size,1,none⟩=some (vU 2139095040)/\w'.cell? ⟨w.heap.size,2,none⟩=some (vI 23)/\w'.cell? ⟨w.heap.size,3,none⟩=some (vI (-149))) (simp [*,go_sem])
     (first
      | (go_at_call 170;refine (HM _).mono ?_;rintro x1 w4 ⟨rfl,hb4⟩;have H14:Hid (FlB _ _ _ _ _ _):=H1.out.drew.step hb4;have H24:Hid (FlB _ _ _ _ _ _):=H2.out.drew.step hb4;have H34:Hid (FlB _ _ _ _ _ _):=H3.out.drew.step hb4;have B4:Hid (Bl w w4):=BL.out.drew.trans (hb4.mono (Nat.le_of_lt l1));clear hb4;obtain ⟨l14,a04,a14,a24,a34,_,_,_,_⟩:=H14.out)
      | (go_at_call 169;refine (HF _).mono ?_;rintro x2 w5 ⟨rfl,hb5⟩;have H15:Hid (FlB _ _ _ _ _ _):=H14.out.step hb5;have H25:Hid (FlB _ _ _ _ _ _):=H24.out.step hb5;have H35:Hid (FlB _ _ _ _ _ _):=H34.out.step hb5;have B5:Hid (Bl w w5):=B4.out.trans (hb5.mono (Nat.le_of_lt l14));clear hb5;obtain ⟨l15,a05,a15,a25,a35,_,_,_,_⟩:=H15.out;obtain ⟨l25,b05,b15,b25,b35,e05,e15,e25,e35⟩:=H25.out;obtain ⟨l35,c05,c15,c25,c35,g05,g15,g25,g35⟩:=H35.out))
    all_goals
     go_wp2
     refine bodyPost_ret (v:=.agg #[.bool c,vI 2,vU (M:Int),vI X]) (by simp [results,Tryz.results143,go_sem,World.cell?_setCell_same,World.cell?_setCell_other, *]) rfl ⟨rfl,?_⟩
     exact ((((((((((((B5.out).setCell (by show w.heap.size<=K;omega) _)).setCell (by show w.heap.size<=K;omega) _)).setCell (by show w.heap.size<=w.heap.size+1;omega) _)).setCell (by show w.heap.size<=w.heap.size+1;omega) _)).setCell (by show w.heap.size<=w.heap.size+1;omega) _)).setCell (by show w.heap.size<=w.heap.size+1;omega) _)
  . subst q
    go_wp2
    refine bodyPost_ret (v:=.agg #[.bool c,vI 3,vU 0,vI 0]) (by simp [results,Tryz.results143,go_sem,World.cell?_setCell_same,World.cell?_setCell_other, *]) rfl ⟨rfl,?_⟩
    exact ((((((((BL.out).setCell (by show w.heap.size<=w.heap.size+1;omega) _)).setCell (by show w.heap.size<=w.heap.size+1;omega) _)).setCell (by show w.heap.size<=w.heap.size+1;omega) _)).setCell (by show w.heap.size<=w.heap.size+1;omega) _)
  . subst q
    go_wp2
    refine bodyPost_ret (v:=.agg #[.bool false,vI 4,vU 0,vI 0]) (by simp [results,Tryz.results143,go_sem,World.cell?_setCell_same,World.cell?_setCell_other, *]) rfl ⟨rfl,?_⟩
    exact ((((((((((BL.out).setCell (by show w.heap.size<=K;omega) _)).setCell (by show w.heap.size<=w.heap.size+1;omega) _)).setCell (by show w.heap.size<=w.heap.size+1;omega) _)).setCell (by show w.heap.size<=w.heap.size+1;omega) _)).setCell (by show w.heap.size<=w.heap.size+1;omega) _)
theorem yO {b:Nat}(h:b<18446744073709551616) (w:World):Cb 143 #[.agg #[vU 9223372036854775808,vU 9218868437227405312,vI 52,vI (-1074)],vU (b:Int)] w (.agg #[.bool (uN 9223372036854775808 9218868437227405312 b),vI (cl 9218868437227405312 (mg 9223372036854775808 b)),vU ((uM 9218868437227405312 52 (mg 9223372036854775808 b):Nat):Int),vI (uE 9218868437227405312 52 (-1074) (mg 9223372036854775808 b))]):=by
 have HN:=fun W=>pQ h W
 have HC:=fun W=>mW h W
 have HM:=fun W=>iE h W
 have hl:=iS (g:=9223372036854775808) (by decide) b
 have HF:=fun W=>aBA hl W
 unfold uN uM uE
 generalize mg 9223372036854775808 b=x at *
 generalize ng 9223372036854775808 b=c at *
 generalize mt 52 x=M at *
 generalize xp 52 (-1074) x=X at *
 have HQ:Hid (cl 9218868437227405312 x=1 \/ cl 9218868437227405312 x=2 \/ cl 9218868437227405312 x=3 \/ cl 9218868437227405312 x=4):=by
  rcases cA 9218868437227405312 x with ⟨_,q⟩ | ⟨_,_,q⟩ | ⟨_,_,q⟩ | ⟨_,q⟩
  . exact .inl q
  . exact .inr (.inl q)
  . exact .inr (.inr (.inl q))
  . exact .inr (.inr (.inr q))
 generalize cl 9218868437227405312 x=C at *
 have H1:Hid (FlB ((w.alloc (.cells #[vU 9223372036854775808,vU 9218868437227405312,vI 52,vI (-1074)] 185)).alloc (.cells #[.bool false,vI 0,vU 0,vI 0] 128)) w.heap.size _ _ _ _):=(FlB.new w _ _ _ _ _).al _
 have H2:Hid (FlB ((w.alloc (.cells #[vU 9223372036854775808,vU 9218868437227405312,vI 52,vI (-1074)] 185)).alloc (.cells #[.bool false,vI 0,vU 0,vI 0] 128)) (w.heap.size+1) _ _ _ _):=FlB.newAt _ _ _ _ _ _ (by simp)
 have HB:Hid (Bl w ((w.alloc (.cells #[vU 9223372036854775808,vU 9218868437227405312,vI 52,vI (-1074)] 185)).alloc (.cells #[.bool false,vI 0,vU 0,vI 0] 128))):=(bz _ _).alloc (by simp) _
 go_enter Tryz.func143,Tryz.ntmps143
 go_upto_region 1 with fail
 go_cut [5] (fun p wx=>∃ K,p=.pointer (some ⟨K,0,none⟩)/\w.heap.size+2<=K/\Bl w wx/\FlB wx w.heap.size (vU 9223372036854775808) (vU 9218868437227405312) (vI 52) (vI (-1074))/\FlB wx (w.heap.size+1) (.bool false) (vI 0) (vU 0) (vI 0)/\FlB wx K (.bool c) (vI C) (vU 0) (vI 0))
 case first =>
  go_region_held3 (fun w'=>w'.cell? ⟨w.heap.size,0,none⟩=some (vU 9223372036854775808)/\w'.cell? ⟨w.heap.size,1,none⟩=some (vU 9218868437227405312)/\w'.cell? ⟨w.heap.size,2,none⟩=some (vI 52)/\w'.cell? ⟨w.heap.size,3,none⟩=some (vI (-1074))) (simp [*,go_sem,World.cell?_alloc_lt])
   (first
    | (go_at_call 167;refine (HN _).mono ?_;rintro x1 w2 ⟨rfl,hb2⟩;obtain ⟨hc2,hf2⟩:=mQ hb2;have hz2:=hb2.size;(try simp at hz2);have y2:w.heap.size<w2.heap.size:=(by omega);have v2:w.heap.size+1<w2.heap.size:=(by omega);(first | (have u2:w.heap.size+1+1<w2.heap.size:=(by omega)) | skip);have HB2:Hid (Below _ _ _):=hb2;clear hb2)
    | (go_at_call 168;refine (HC _).mono ?_;rintro x2 w3 ⟨rfl,hb3⟩;obtain ⟨hc3,hf3⟩:=mQ hb3;have hz3:=hb3.size;(try simp at hz3);have y3:w.heap.size<w3.heap.size:=(by omega);have v3:w.heap.size+1<w3.heap.size:=(by omega);have HB3:Hid (Below _ _ _):=hb3;clear hb3))
  all_goals
   go_wp2_with fail
   go_meet
   first
    | exact ⟨w3.heap.size,rfl,by omega,(HB.out.drew.trans (HB2.out.mono (by simp;omega))).trans (HB3.out.mono (by omega)) |>.alloc (by omega) _,((H1.out.drew.step HB2.out).step HB3.out).al _,((H2.out.drew.step HB2.out).step HB3.out).al _,FlB.new _ _ _ _ _ _⟩
    | exact ⟨w2.heap.size,rfl,by omega,((((((HB.out.drew.trans (HB2.out.mono (by simp;omega))).alloc (by omega) _).trans (HB3.out.mono (by simp;omega))).setCell (by show w.heap.size<=w2.heap.size;omega) _).setCell (by show w.heap.size<=w2.heap.size;omega) _).setCell (by show w.heap.size<=w2.heap.size;omega) _).setCell (by show w.heap.size<=w2.heap.size;omega) _,(((((H1.out.drew.step HB2.out).al _).step HB3.out).far _ _ (by show w.heap.size ≠ w2.heap.size;omega)).far _ _ (by show w.heap.size ≠ w2.heap.size;omega)).far _ _ (by show w.heap.size ≠ w2.heap.size;omega) |>.far _ _ (by show w.heap.size ≠ w2.heap.size;omega),(((((H2.out.drew.step HB2.out).al _).step HB3.out).far _ _ (by show w.heap.size+1 ≠ w2.heap.size;omega)).far _ _ (by show w.heap.size+1 ≠ w2.heap.size;omega)).far _ _ (by show w.heap.size+1 ≠ w2.heap.size;omega) |>.far _ _ (by show w.heap.size+1 ≠ w2.heap.size;omega),(((((FlB.new _ _ _ _ _ _).step HB3.out).set0 _).set1 _).set2 _).set3 _⟩
    | exact ⟨w.heap.size+1+1,rfl,by omega,(((((HB.out.alloc (by simp;omega) _).drew.trans (HB2.out.mono (by simp;omega))).trans (HB3.out.mono (by omega))).setCell (by show w.heap.size<=w.heap.size+1+1;omega) _).setCell (by show w.heap.size<=w.heap.size+1+1;omega) _).setCell (by show w.heap.size<=w.heap.size+1+1;omega) _ |>.setCell (by show w.heap.size<=w.heap.size+1+1;omega) _,(((((H1.out.al _).drew.step HB2.out).step HB3.out).far _ _ (by show w.heap.size ≠ w.heap.size+1+1;omega)).far _ _ (by show w.heap.size ≠ w.heap.size+1+1;omega)).far _ _ (by show w.heap.size ≠ w.heap.size+1+1;omega) |>.far _ _ (by show w.heap.size ≠ w.heap.size+1+1;omega),(((((H2.out.al _).drew.step HB2.out).step HB3.out).far _ _ (by show w.heap.size+1 ≠ w.heap.size+1+1;omega)).far _ _ (by show w.heap.size+1 ≠ w.heap.size+1+1;omega)).far _ _ (by show w.heap.size+1 ≠ w.heap.size+1+1;omega) |>.far _ _ (by show w.heap.size+1 ≠ w.heap.size+1+1;omega),((((((FlB.newAt _ _ _ _ _ _ (by simp)).drew.step HB2.out).step HB3.out).set0 _).set1 _).set2 _).set3 _⟩
 case rest =>
  clear H1 H2 HB HN HC
  obtain ⟨K,rfl,hK,bl,h1,h2,h3⟩:=hcut
  have BL:Hid (Bl w wc):=bl
  have H1:Hid (FlB _ _ _ _ _ _):=h1
  have H2:Hid (FlB _ _ _ _ _ _):=h2
  have H3:Hid (FlB _ _ _ _ _ _):=h3
  obtain ⟨l1,a0,a1,a2,a3,_,_,_,_⟩:=h1
  obtain ⟨l2,b0,b1,b2,b3,e0,e1,e2,e3⟩:=h2
  obtain ⟨l3,c0,c1,c2,c3,g0,g1,g2,g3⟩:=h3
  have n1:¬ K=w.heap.size+1:=by omega
  have n2:¬ w.heap.size+1=K:=by omega
  have n3:¬ K=w.heap.size:=by omega
  have n4:¬ w.heap.size=K:=by omega
  clear bl
  rcases HQ.out with q | q | q | q
  . subst q
    go_wp2
    refine bodyPost_ret (v:=.agg #[.bool c,vI 1,vU 0,vI 0]) (by simp [results,Tryz.results143,go_sem,World.cell?_setCell_same,World.cell?_setCell_other, *]) rfl ⟨rfl,?_⟩
    exact (((BL.out.setCell (by show w.heap.size<=w.heap.size+1;omega) _).setCell (by show w.heap.size<=w.heap.size+1;omega) _).setCell (by show w.heap.size<=w.heap.size+1;omega) _).setCell (by show w.heap.size<=w.heap.size+1;omega) _
  . subst q
    go_wp2
    go_region_held3 (fun w'=>w'.cell? ⟨w.heap.size,0,none⟩=some (vU 9223372036854775808)/\w'.cell? ⟨w.heap.size,1,none⟩=some (vU 9218868437227405312)/\w'.cell? ⟨w.heap.size,2,none⟩=some (vI 52)/\w'.cell? ⟨w.heap.size,3,none⟩=some (vI (-1074))) (simp [*,go_sem])
     (first
      | (go_at_call 170;refine (HM _).mono ?_;rintro x1 w4 ⟨rfl,hb4⟩;have H14:Hid (FlB _ _ _ _ _ _):=H1.out.drew.step hb4;have H24:Hid (FlB _ _ _ _ _ _):=H2.out.drew.step hb4;have H34:Hid (FlB _ _ _ _ _ _):=H3.out.drew.step hb4;have B4:Hid (Bl w w4):=BL.out.drew.trans (hb4.mono (Nat.le_of_lt l1));clear hb4;obtain ⟨l14,a04,a14,a24,a34,_,_,_,_⟩:=H14.out)
      | (go_at_call 169;refine (HF _).mono ?_;rintro x2 w5 ⟨rfl,hb5⟩;have H15:Hid (FlB _ _ _ _ _ _):=H14.out.step hb5;have H25:Hid (FlB _ _ _ _ _ _):=H24.out.step hb5;have H35:Hid (FlB _ _ _ _ _ _):=H34.out.step hb5;have B5:Hid (Bl w w5):=B4.out.trans (hb5.mono (Nat.le_of_lt l14));clear hb5;obtain ⟨l15,a05,a15,a25,a35,_,_,_,_⟩:=H15.out;obtain ⟨l25,b05,b15,b25,b35,e05,e15,e25,e35⟩:=H25.out;obtain ⟨l35,c05,c15,c25,c35,g05,g15,g25,g35⟩:=H35.out))
    all_goals
     go_wp2
     refine bodyPost_ret (v:=.agg #[.bool c,vI 2,vU (M:Int),vI X]) (by simp [results,Tryz.results143,go_sem,World.cell?_setCell_same,World.cell?_setCell_other, *]) rfl ⟨rfl,?_⟩
     exact ((((((((((((B5.out).setCell (by show w.heap.size<=K;omega) _)).setCell (by show w.heap.size<=K;omega) _)).setCell (by show w.heap.size<=w.heap.size+1;omega) _)).setCell (by show w.heap.size<=w.heap.size+1;omega) _)).setCell (by show w.heap.size<=w.heap.size+1;omega) _)).setCell (by show w.heap.size<=w.heap.size+1;omega) _)
  . subst q
    go_wp2
    refine bodyPost_ret (v:=.agg #[.bool c,vI 3,vU 0,vI 0]) (by simp [results,Tryz.results143,go_sem,World.cell?_setCell_same,World.cell?_setCell_other, *]) rfl ⟨rfl,?_⟩
    exact ((((((((BL.out).setCell (by show w.heap.size<=w.heap.size+1;omega) _)).setCell (by show w.heap.size<=w.heap.size+1;omega) _)).setCell (by show w.heap.size<=w.heap.size+1;omega) _)).setCell (by show w.heap.size<=w.heap.size+1;omega) _)
  . subst q
    go_wp2
    refine bodyPost_ret (v:=.agg #[.bool false,vI 4,vU 0,vI 0]) (by simp [results,Tryz.results143,go_sem,World.cell?_setCell_same,World.cell?_setCell_other, *]) rfl ⟨rfl,?_⟩
    exact ((((((((((BL.out).setCell (by show w.heap.size<=K;omega) _)).setCell (by show w.heap.size<=w.heap.size+1;omega) _)).setCell (by show w.heap.size<=w.heap.size+1;omega) _)).setCell (by show w.heap.size<=w.heap.size+1;omega) _)).setCell (by show w.heap.size<=w.heap.size+1;omega) _)
theorem uA {s:Int}(h:Sn s) (w:World):Cb 144 #[vI s] w (.tuple #[.agg #[vU 0,vU 0,vI 0,vI 0],.iface 69 (vI 5)]):=by
 have p1:(s == 32)=false:=by simpa using h.1
 have p2:(s == 64)=false:=by simpa using h.2
 clear h
 go_enter Tryz.func144,Tryz.ntmps144
 go_wp2
 exact bodyPost_ret (v:=.tuple #[.agg #[vU 0,vU 0,vI 0,vI 0],.iface 69 (vI 5)]) (by simp [results,Tryz.results144,go_sem]) rfl ⟨rfl,bz _ _⟩
theorem gM (w:World):Cb 144 #[vI 32] w (.tuple #[.agg #[vU 2147483648,vU 2139095040,vI 23,vI (-149)],.nilIface]):=by
 have H:=fun W=>uB W
 go_enter Tryz.func144,Tryz.ntmps144
 go_wp2_with fail
 refine (H _).mono ?_
 rintro e w1 ⟨rfl,hb⟩
 have T:Hid (FlB w1 w.heap.size _ _ _ _):=(FlB.new w (vU 0) (vU 0) (vI 0) (vI 0) 185).step hb
 have B:Hid (Bl w w1):=(bz _ _).trans (hb.mono (by simp))
 clear hb
 obtain ⟨l,a0,a1,a2,a3,f0,f1,f2,f3⟩:=T.out
 go_wp2
 exact bodyPost_ret (v:=.tuple #[.agg #[vU 2147483648,vU 2139095040,vI 23,vI (-149)],.nilIface]) (by simp [results,Tryz.results144,go_sem,World.cell?_setCell_same,World.cell?_setCell_other, *]) rfl ⟨rfl,(((B.out.setCell (Nat.le_refl _) _).setCell (Nat.le_refl _) _).setCell (Nat.le_refl _) _).setCell (Nat.le_refl _) _⟩
theorem lC (w:World):Cb 144 #[vI 64] w (.tuple #[.agg #[vU 9223372036854775808,vU 9218868437227405312,vI 52,vI (-1074)],.nilIface]):=by
 have H:=fun W=>sZ W
 go_enter Tryz.func144,Tryz.ntmps144
 go_wp2_with fail
 refine (H _).mono ?_
 rintro e w1 ⟨rfl,hb⟩
 have T:Hid (FlB w1 w.heap.size _ _ _ _):=(FlB.new w (vU 0) (vU 0) (vI 0) (vI 0) 185).step hb
 have B:Hid (Bl w w1):=(bz _ _).trans (hb.mono (by simp))
 clear hb
 obtain ⟨l,a0,a1,a2,a3,f0,f1,f2,f3⟩:=T.out
 go_wp2
 exact bodyPost_ret (v:=.tuple #[.agg #[vU 9223372036854775808,vU 9218868437227405312,vI 52,vI (-1074)],.nilIface]) (by simp [results,Tryz.results144,go_sem,World.cell?_setCell_same,World.cell?_setCell_other, *]) rfl ⟨rfl,(((B.out.setCell (Nat.le_refl _) _).setCell (Nat.le_refl _) _).setCell (Nat.le_refl _) _).setCell (Nat.le_refl _) _⟩
theorem pZ {s:Int}(h:Sn s) (b:Int) (w:World):Cb 142 #[vU b,vI s] w (.tuple #[.agg #[vU 0,vU 0,vI 0,vI 0],.iface 69 (vI 5)]):=by
 have H:=fun W=>uA h W
 go_enter Tryz.func142,Tryz.ntmps142
 go_wp2_with fail
 refine (H _).mono ?_
 rintro e w1 ⟨rfl,hb⟩
 have T:Hid (FlB w1 w.heap.size _ _ _ _):=(FlB.new w (vU 0) (vU 0) (vI 0) (vI 0) 185).step hb
 have B:Hid (Bl w w1):=(bz _ _).trans (hb.mono (by simp))
 clear hb
 obtain ⟨l,a0,a1,a2,a3,f0,f1,f2,f3⟩:=T.out
 go_wp2
 exact bodyPost_ret (v:=.tuple #[.agg #[vU 0,vU 0,vI 0,vI 0],.iface 69 (vI 5)]) (by simp [results,Tryz.results142,go_sem,World.cell?_setCell_same,World.cell?_setCell_other,World.cell?_alloc_lt, *]) rfl ⟨rfl,(((((B.out).setCell (Nat.le_refl _) _).setCell (Nat.le_refl _) _).setCell (Nat.le_refl _) _).setCell (Nat.le_refl _) _).alloc (by simp;omega) _⟩
theorem oV {b:Nat}(h:4294967296<=b) (w:World):Cb 142 #[vU (b:Int),vI 32] w (.tuple #[.agg #[vU 0,vU 0,vI 0,vI 0],.iface 69 (vI 1)]):=by
 have H:=fun W=>gM W
 have hor:bits BinOp.or IntKind.u64 2147483648 2147483647=4294967295:=by decide
 have q:(4294967295:Int)<(b:Int):=by omega
 go_enter Tryz.func142,Tryz.ntmps142
 go_wp2_with fail
 refine (H _).mono ?_
 rintro e w1 ⟨rfl,hb⟩
 have T:Hid (FlB w1 w.heap.size _ _ _ _):=(FlB.new w (vU 0) (vU 0) (vI 0) (vI 0) 185).step hb
 have B:Hid (Bl w w1):=(bz _ _).trans (hb.mono (by simp))
 clear hb
 obtain ⟨l,a0,a1,a2,a3,f0,f1,f2,f3⟩:=T.out
 go_wp2
 exact bodyPost_ret (v:=.tuple #[.agg #[vU 0,vU 0,vI 0,vI 0],.iface 69 (vI 1)]) (by simp [results,Tryz.results142,go_sem,World.cell?_setCell_same,World.cell?_setCell_other,World.cell?_alloc_lt, *]) rfl ⟨rfl,(((((B.out).setCell (Nat.le_refl _) _).setCell (Nat.le_refl _) _).setCell (Nat.le_refl _) _).setCell (Nat.le_refl _) _).alloc (by simp;omega) _⟩
theorem jH {b:Nat}(h:b<4294967296) (w:World):Cb 142 #[vU (b:Int),vI 32] w (.tuple #[.agg #[vU 2147483648,vU 2139095040,vI 23,vI (-149)],.nilIface]):=by
 have H:=fun W=>gM W
 have hor:bits BinOp.or IntKind.u64 2147483648 2147483647=4294967295:=by decide
 have q:¬ (4294967295:Int)<(b:Int):=by omega
 go_enter Tryz.func142,Tryz.ntmps142
 go_wp2_with fail
 refine (H _).mono ?_
 rintro e w1 ⟨rfl,hb⟩
 have T:Hid (FlB w1 w.heap.size _ _ _ _):=(FlB.new w (vU 0) (vU 0) (vI 0) (vI 0) 185).step hb
 have B:Hid (Bl w w1):=(bz _ _).trans (hb.mono (by simp))
 clear hb
 obtain ⟨l,a0,a1,a2,a3,f0,f1,f2,f3⟩:=T.out
 go_wp2
 exact bodyPost_ret (v:=.tuple #[.agg #[vU 2147483648,vU 2139095040,vI 23,vI (-149)],.nilIface]) (by simp [results,Tryz.results142,go_sem,World.cell?_setCell_same,World.cell?_setCell_other,World.cell?_alloc_lt, *]) rfl ⟨rfl,(((((B.out).setCell (Nat.le_refl _) _).setCell (Nat.le_refl _) _).setCell (Nat.le_refl _) _).setCell (Nat.le_refl _) _).alloc (by simp;omega) _⟩
theorem jI {b:Nat}(h:b<18446744073709551616) (w:World):Cb 142 #[vU (b:Int),vI 64] w (.tuple #[.agg #[vU 9223372036854775808,vU 9218868437227405312,vI 52,vI (-1074)],.nilIface]):=by
 have H:=fun W=>lC W
 have hor:bits BinOp.or IntKind.u64 9223372036854775808 9223372036854775807=18446744073709551615:=by decide
 have q:¬ (18446744073709551615:Int)<(b:Int):=by omega
 go_enter Tryz.func142,Tryz.ntmps142
 go_wp2_with fail
 refine (H _).mono ?_
 rintro e w1 ⟨rfl,hb⟩
 have T:Hid (FlB w1 w.heap.size _ _ _ _):=(FlB.new w (vU 0) (vU 0) (vI 0) (vI 0) 185).step hb
 have B:Hid (Bl w w1):=(bz _ _).trans (hb.mono (by simp))
 clear hb
 obtain ⟨l,a0,a1,a2,a3,f0,f1,f2,f3⟩:=T.out
 go_wp2
 exact bodyPost_ret (v:=.tuple #[.agg #[vU 9223372036854775808,vU 9218868437227405312,vI 52,vI (-1074)],.nilIface]) (by simp [results,Tryz.results142,go_sem,World.cell?_setCell_same,World.cell?_setCell_other,World.cell?_alloc_lt, *]) rfl ⟨rfl,(((((B.out).setCell (Nat.le_refl _) _).setCell (Nat.le_refl _) _).setCell (Nat.le_refl _) _).setCell (Nat.le_refl _) _).alloc (by simp;omega) _⟩
theorem aCI {b:Nat}(h:b<4294967296) (w:World):Cb 166 #[vU (b:Int),vI 32] w (.tuple #[vI (cl 2139095040 (mg 2147483648 b)),.nilIface]):=by
 have H:=fun W=>jH h W
 have HC:=fun W=>mV h W
 clear h
 go_enter Tryz.func166,Tryz.ntmps166
 go_wp2_with fail
 refine (H _).mono ?_
 rintro e w1 ⟨rfl,hb⟩
 have B:Hid (Bl w w1):=hb
 have l:=hb.size
 clear hb
 go_wp2_with fail
 refine (HC _).mono ?_
 rintro e w2 ⟨rfl,hb⟩
 have B2:Hid (Bl w w2):=(B.out.alloc l _).trans (hb.mono (by simp;omega))
 clear hb
 go_wp2
 go_ret2
 exact ⟨rfl,B2.out⟩
theorem aCJ {b:Nat}(h:b<18446744073709551616) (w:World):Cb 166 #[vU (b:Int),vI 64] w (.tuple #[vI (cl 9218868437227405312 (mg 9223372036854775808 b)),.nilIface]):=by
 have H:=fun W=>jI h W
 have HC:=fun W=>mW h W
 clear h
 go_enter Tryz.func166,Tryz.ntmps166
 go_wp2_with fail
 refine (H _).mono ?_
 rintro e w1 ⟨rfl,hb⟩
 have B:Hid (Bl w w1):=hb
 have l:=hb.size
 clear hb
 go_wp2_with fail
 refine (HC _).mono ?_
 rintro e w2 ⟨rfl,hb⟩
 have B2:Hid (Bl w w2):=(B.out.alloc l _).trans (hb.mono (by simp;omega))
 clear hb
 go_wp2
 go_ret2
 exact ⟨rfl,B2.out⟩
theorem aDM {s:Int}(h:Sn s) (b:Int) (w:World):Cb 120 #[vU b,vI s] w (.tuple #[.agg #[.bool false,vI 0,vU 0,vI 0],.iface 69 (vI 5)]):=by
 have H:=fun W=>pZ h b W
 clear h
 go_enter Tryz.func120,Tryz.ntmps120
 go_wp2_with fail
 refine (H _).mono ?_
 rintro e w1 ⟨rfl,hb⟩
 have T:Hid (FlB w1 w.heap.size _ _ _ _):=(FlB.new w (.bool false) (vI 0) (vU 0) (vI 0) 128).step hb
 have B:Hid (Bl w w1):=(bz _ _).trans (hb.mono (by simp))
 clear hb
 obtain ⟨l,a0,a1,a2,a3,f0,f1,f2,f3⟩:=T.out
 go_wp2
 exact bodyPost_ret (v:=.tuple #[.agg #[.bool false,vI 0,vU 0,vI 0],.iface 69 (vI 5)]) (by simp [results,Tryz.results120,go_sem,World.cell?_setCell_same,World.cell?_setCell_other,World.cell?_alloc_lt, *]) rfl ⟨rfl,(((((B.out).setCell (Nat.le_refl _) _).setCell (Nat.le_refl _) _).setCell (Nat.le_refl _) _).setCell (Nat.le_refl _) _).alloc (by simp;omega) _⟩
theorem aCs {b:Nat}(h:4294967296<=b) (w:World):Cb 120 #[vU (b:Int),vI 32] w (.tuple #[.agg #[.bool false,vI 0,vU 0,vI 0],.iface 69 (vI 1)]):=by
 have H:=fun W=>oV h W
 clear h
 go_enter Tryz.func120,Tryz.ntmps120
 go_wp2_with fail
 refine (H _).mono ?_
 rintro e w1 ⟨rfl,hb⟩
 have T:Hid (FlB w1 w.heap.size _ _ _ _):=(FlB.new w (.bool false) (vI 0) (vU 0) (vI 0) 128).step hb
 have B:Hid (Bl w w1):=(bz _ _).trans (hb.mono (by simp))
 clear hb
 obtain ⟨l,a0,a1,a2,a3,f0,f1,f2,f3⟩:=T.out
 go_wp2
 exact bodyPost_ret (v:=.tuple #[.agg #[.bool false,vI 0,vU 0,vI 0],.iface 69 (vI 1)]) (by simp [results,Tryz.results120,go_sem,World.cell?_setCell_same,World.cell?_setCell_other,World.cell?_alloc_lt, *]) rfl ⟨rfl,(((((B.out).setCell (Nat.le_refl _) _).setCell (Nat.le_refl _) _).setCell (Nat.le_refl _) _).setCell (Nat.le_refl _) _).alloc (by simp;omega) _⟩
theorem aDK {b:Nat}(h:b<4294967296) (w:World):Cb 120 #[vU (b:Int),vI 32] w (.tuple #[.agg #[.bool (uN 2147483648 2139095040 b),vI (cl 2139095040 (mg 2147483648 b)),vU ((uM 2139095040 23 (mg 2147483648 b):Nat):Int),vI (uE 2139095040 23 (-149) (mg 2147483648 b))],.nilIface]):=by
 have H:=fun W=>jH h W
 have HU:=fun W=>yN h W
 generalize uN 2147483648 2139095040 b=x0 at *
 generalize uM 2139095040 23 (mg 2147483648 b)=x2 at *
 generalize uE 2139095040 23 (-149) (mg 2147483648 b)=x3 at *
 generalize cl 2139095040 (mg 2147483648 b)=x1 at *
 clear h
 go_enter Tryz.func120,Tryz.ntmps120
 go_wp2_with fail
 refine (H _).mono ?_
 rintro e w1 ⟨rfl,hb⟩
 have T:Hid (FlB w1 w.heap.size _ _ _ _):=(FlB.new w (.bool false) (vI 0) (vU 0) (vI 0) 128).step hb
 have B:Hid (Bl w w1):=(bz _ _).trans (hb.mono (by simp))
 clear hb
 obtain ⟨l,a0,a1,a2,a3,f0,f1,f2,f3⟩:=T.out
 go_wp2_with fail
 refine (HU _).mono ?_
 rintro e w2 ⟨rfl,hb⟩
 have T2:Hid (FlB w2 w.heap.size _ _ _ _):=(T.out.al _).step hb
 have B2:Hid (Bl w w2):=(B.out.alloc (Nat.le_of_lt l) _).trans (hb.mono (by simp;omega))
 clear hb
 obtain ⟨l2,b0,b1,b2,b3,g0,g1,g2,g3⟩:=T2.out
 go_wp2
 exact bodyPost_ret (v:=.tuple #[.agg #[.bool x0,vI x1,vU (x2:Int),vI x3],.nilIface]) (by simp [results,Tryz.results120,go_sem,World.cell?_setCell_same,World.cell?_setCell_other, *]) rfl ⟨rfl,((((B2.out).setCell (Nat.le_refl _) _).setCell (Nat.le_refl _) _).setCell (Nat.le_refl _) _).setCell (Nat.le_refl _) _⟩
theorem aDL {b:Nat}(h:b<18446744073709551616) (w:World):Cb 120 #[vU (b:Int),vI 64] w (.tuple #[.agg #[.bool (uN 9223372036854775808 9218868437227405312 b),vI (cl 9218868437227405312 (mg 9223372036854775808 b)),vU ((uM 9218868437227405312 52 (mg 9223372036854775808 b):Nat):Int),vI (uE 9218868437227405312 52 (-1074) (mg 9223372036854775808 b))],.nilIface]):=by
 have H:=fun W=>jI h W
 have HU:=fun W=>yO h W
 generalize uN 9223372036854775808 9218868437227405312 b=x0 at *
 generalize uM 9218868437227405312 52 (mg 9223372036854775808 b)=x2 at *
 generalize uE 9218868437227405312 52 (-1074) (mg 9223372036854775808 b)=x3 at *
 generalize cl 9218868437227405312 (mg 9223372036854775808 b)=x1 at *
 clear h
 go_enter Tryz.func120,Tryz.ntmps120
 go_wp2_with fail
 refine (H _).mono ?_
 rintro e w1 ⟨rfl,hb⟩
 have T:Hid (FlB w1 w.heap.size _ _ _ _):=(FlB.new w (.bool false) (vI 0) (vU 0) (vI 0) 128).step hb
 have B:Hid (Bl w w1):=(bz _ _).trans (hb.mono (by simp))
 clear hb
 obtain ⟨l,a0,a1,a2,a3,f0,f1,f2,f3⟩:=T.out
 go_wp2_with fail
 refine (HU _).mono ?_
 rintro e w2 ⟨rfl,hb⟩
 have T2:Hid (FlB w2 w.heap.size _ _ _ _):=(T.out.al _).step hb
 have B2:Hid (Bl w w2):=(B.out.alloc (Nat.le_of_lt l) _).trans (hb.mono (by simp;omega))
 clear hb
 obtain ⟨l2,b0,b1,b2,b3,g0,g1,g2,g3⟩:=T2.out
 go_wp2
 exact bodyPost_ret (v:=.tuple #[.agg #[.bool x0,vI x1,vU (x2:Int),vI x3],.nilIface]) (by simp [results,Tryz.results120,go_sem,World.cell?_setCell_same,World.cell?_setCell_other, *]) rfl ⟨rfl,((((B2.out).setCell (Nat.le_refl _) _).setCell (Nat.le_refl _) _).setCell (Nat.le_refl _) _).setCell (Nat.le_refl _) _⟩
theorem uY  (w:World):Cb 121 #[vI 32] w (.tuple #[vU 1,.nilIface]):=by
 have H:=fun W=>gM W
 go_enter Tryz.func121,Tryz.ntmps121
 go_wp2_with fail
 refine (H _).mono ?_
 rintro e w1 ⟨rfl,hb⟩
 have B:Hid (Bl w w1):=hb
 have l:=hb.size
 clear hb
 go_wp2
 go_ret2
 exact ⟨rfl,B.out.alloc l _⟩
theorem uZ  (w:World):Cb 121 #[vI 64] w (.tuple #[vU 1,.nilIface]):=by
 have H:=fun W=>lC W
 go_enter Tryz.func121,Tryz.ntmps121
 go_wp2_with fail
 refine (H _).mono ?_
 rintro e w1 ⟨rfl,hb⟩
 have B:Hid (Bl w w1):=hb
 have l:=hb.size
 clear hb
 go_wp2
 go_ret2
 exact ⟨rfl,B.out.alloc l _⟩
end Go.Proofs.YtblkokjkmbpejaaGreatDoor
