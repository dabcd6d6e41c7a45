/-
  Holds: VDecC VDecE IvU SoC VDecQ.
-/
import Derived.Test.YtblkokjkmbpejaaGreatDoorRows
import Derived.Laws.Externs
import Derived.WalkKit
import Derived.WalkSpells
import Derived.WalkLawsBesides
import Derived.Lib.Mul64
import Derived.Stop.Asserts
import Derived.RowKitTokens
import Derived.Lib.Strings
import Derived.Lib.BufferWrite
import Derived.Deep.OwnRows
import Derived.Deep.RegionHeld3
import Derived.BigQuiet
import Derived.Lib.ConvBytes
import Derived.Laws.CopyOwn
import Derived.Lib.TrailingZeros
import Derived.Lib.ItoaNum
import Derived.Deep.LoopGhost
import Derived.Test.YtblkokjkmbpejaaGreatDoorKf10
import Derived.Test.YtblkokjkmbpejaaGreatDoorKf13
set_option maxRecDepth 100000
set_option maxHeartbeats 4000000
namespace Go.Proofs.YtblkokjkmbpejaaGreatDoor
open Go.RowKit
def dBB (s:ByteArray) (p:Int) (t:ByteArray) (q:Int):Prop:=0<t.size/\(p<q \/ (p=q/\pv s s.size<pv t s.size))
theorem dT {s:ByteArray}{p:Int}{u:ByteArray}{p':Int}(h:NX s p u p') {t:ByteArray}{q:Int}{d:Bool}(ht:VD t q d):aE u p' t q<=0 ↔ dBB s p t q:=by
 unfold dBB
 rcases ht with ⟨z,_,_⟩ | ht
 . have up:=h.pos
   unfold aE
   rw [if_neg (by omega),if_neg (by omega),if_pos z]
   omega
 . have tp:=ht.pos
   rw [aEd h ht]
   omega
theorem Two.drewN {w W:World}{s:ByteArray}{p:Int}{c:Bool}{t:ByteArray}{q:Int}{d:Bool}(h:Two w W s p c t q d) (n:Nat):Two w (W.drewN n) s p c t q d:=h.step ⟨rfl,rfl,rfl,Nat.le_refl _,fun _ _=>rfl⟩
theorem aQ {s:ByteArray}{p:Int}{c:Bool}(h:VD s p c):DG s:=by
 rcases h with ⟨z,_,_⟩ | h
 . intro k hk;omega
 . exact h.dg
theorem aC {s:ByteArray}{p:Int}(h:VD s p true):VN s p true:=by
 rcases h with ⟨_,_,z⟩ | h
 . exact absurd z (by decide)
 . exact h
theorem aB8 {s:ByteArray}{p:Int}{t:ByteArray}{q:Int}(h1:VD s p false) (h2:VD t q false) (w:World) :
 Cb 23 #[dcV s p false,dcV t q false] w (.tuple #[vI (aE s p t q),vI 0]):=by
 have V1:=fun W=>aH h1 W
 have V2:=fun W=>aH h2 W
 have L0:=fun W=>aM (c:=false) (d:=false) (p:=p) (q:=q) (aO h1) (aO h2) (aQ h1) (aQ h2) W
 have H1:Hid (VD s p false):=h1
 have H2:Hid (VD t q false):=h2
 clear h1 h2
 unfold dcV at *
 go_enter Tryz.func23,Tryz.ntmps23
 go_wp2_with fail
 refine (V1 _).mono ?_
 rintro e w1 ⟨rfl,hb1⟩
 have T1:=(Two.start w s p false t q false).step hb1
 clear hb1
 have HT1:Hid (Two w w1 s p false t q false):=T1
 obtain ⟨_,_,a01,a11,a21,b01,b11,b21⟩:=T1
 go_wp2_with fail
 refine (V2 _).mono ?_
 rintro e w2 ⟨rfl,hb2⟩
 clear a01 a11 a21 b01 b11 b21
 have T2:=HT1.out.step hb2
 clear hb2
 have HT2:Hid (Two w w2 s p false t q false):=T2
 obtain ⟨_,_,a02,a12,a22,b02,b12,b22⟩:=T2
 go_wp2_with fail
 refine (L0 _).mono ?_
 rintro e w3 ⟨rfl,hb3⟩
 clear a02 a12 a22 b02 b12 b22
 have T3:=HT2.out.step hb3
 clear hb3
 have HT3:Hid (Two w w3 s p false t q false):=T3
 obtain ⟨_,_,a03,a13,a23,b03,b13,b23⟩:=T3
 go_wp2
 go_ret2
 exact ⟨rfl,HT3.out.bel⟩
theorem xJ {s:ByteArray}{p:Int}{t:ByteArray}{q:Int}{d:Bool}(h1:VD s p true) (h2:VD t q d) (hb:dBB s p t q) (w:World) :
 Cb 23 #[dcV s p true,dcV t q d] w (.tuple #[vI (-1),vI 0]):=by
 have V1:=fun W=>aH h1 W
 have V2:=fun W=>aH h2 W
 have L0:=fun W=>aM (c:=true) (d:=d) (p:=p) (q:=q) (aO h1) (aO h2) (aQ h1) (aQ h2) W
 have H1:Hid (VD s p true):=h1
 have H2:Hid (VD t q d):=h2
 have NA:=fun W=>bQ (c:=true) (aC h1).pos (aC h1).len (aC h1).dg (aC h1).lo (aC h1).hi W
 have LA:=fun u p' (h:NX s p u p') W=>aM (s:=u) (p:=p') (c:=false) (d:=d) (q:=q) h.len (aO h2) h.dg (aQ h2) W
 have HBa:Hid (dBB s p t q):=hb
 clear h1 h2 hb
 unfold dcV at *
 go_enter Tryz.func23,Tryz.ntmps23
 go_wp2_with fail
 refine (V1 _).mono ?_
 rintro e w1 ⟨rfl,hb1⟩
 have T1:=(Two.start w s p true t q d).step hb1
 clear hb1
 have HT1:Hid (Two w w1 s p true t q d):=T1
 obtain ⟨_,_,a01,a11,a21,b01,b11,b21⟩:=T1
 go_wp2_with fail
 refine (V2 _).mono ?_
 rintro e w2 ⟨rfl,hb2⟩
 clear a01 a11 a21 b01 b11 b21
 have T2:=HT1.out.step hb2
 clear hb2
 have HT2:Hid (Two w w2 s p true t q d):=T2
 obtain ⟨_,_,a02,a12,a22,b02,b12,b22⟩:=T2
 go_wp2_with fail
 refine (L0 _).mono ?_
 rintro e w3 ⟨rfl,hb3⟩
 clear a02 a12 a22 b02 b12 b22
 have T3:=HT2.out.step hb3
 clear hb3
 have HT3:Hid (Two w w3 s p true t q d):=T3
 obtain ⟨_,_,a03,a13,a23,b03,b13,b23⟩:=T3
 go_wp2
 go_region_held3 (fun w'=>w'.cell? ⟨w.heap.size,0,none⟩=some (.string s)/\w'.cell? ⟨w.heap.size,1,none⟩=some (vI p)/\w'.cell? ⟨w.heap.size,2,none⟩=some (.bool true)/\w'.cell? ⟨w.heap.size+1,0,none⟩=some (.string t)/\w'.cell? ⟨w.heap.size+1,1,none⟩=some (vI q)/\w'.cell? ⟨w.heap.size+1,2,none⟩=some (.bool d)) (simp [*,go_sem])
  (first
   | (go_at_call 45;refine (NA _).mono ?_;rintro e w4 ⟨u4,p4,rfl,hx4,hb4⟩;have HNX4:Hid (NX s p u4 p4):=hx4;clear hx4;have HT4:Hid (Two w w4 s p true t q d):=HT3.out.drew.step hb4;clear hb4;obtain ⟨_,_,x04,x14,x24,x34,x44,x54⟩:=HT4.out)
   | (go_at_call 44;refine (LA _ _ HNX4.out _).mono ?_;rintro e w5 ⟨rfl,hb5⟩;have HT5:Hid (Two w w5 s p true t q d):=HT4.out.step hb5;clear hb5;obtain ⟨_,_,x05,x15,x25,x35,x45,x55⟩:=HT5.out;have hle4:aE u4 p4 t q<=0:=(dT HNX4.out H2.out).mpr HBa.out))
 go_wp2
 go_ret2
 exact ⟨rfl,HT5.out.bel⟩
theorem aAD {s:ByteArray}{p:Int}{t:ByteArray}{q:Int}(h1:VD s p true) (h2:VD t q true) (hb:¬ dBB s p t q) (hd:dBB t q s p) (w:World) :
 Cb 23 #[dcV s p true,dcV t q true] w (.tuple #[vI 1,vI 0]):=by
 have V1:=fun W=>aH h1 W
 have V2:=fun W=>aH h2 W
 have L0:=fun W=>aM (c:=true) (d:=true) (p:=p) (q:=q) (aO h1) (aO h2) (aQ h1) (aQ h2) W
 have H1:Hid (VD s p true):=h1
 have H2:Hid (VD t q true):=h2
 have NA:=fun W=>bQ (c:=true) (aC h1).pos (aC h1).len (aC h1).dg (aC h1).lo (aC h1).hi W
 have LA:=fun u p' (h:NX s p u p') W=>aM (s:=u) (p:=p') (c:=false) (d:=true) (q:=q) h.len (aO h2) h.dg (aQ h2) W
 have NB:=fun W=>bQ (c:=true) (aC h2).pos (aC h2).len (aC h2).dg (aC h2).lo (aC h2).hi W
 have LB:=fun u p' (h:NX t q u p') W=>aM (s:=u) (p:=p') (c:=false) (t:=s) (d:=true) (q:=p) h.len (aO h1) h.dg (aQ h1) W
 have HBa:Hid (¬ dBB s p t q):=hb
 have HBb:Hid (dBB t q s p):=hd
 clear h1 h2 hb hd
 unfold dcV at *
 go_enter Tryz.func23,Tryz.ntmps23
 go_wp2_with fail
 refine (V1 _).mono ?_
 rintro e w1 ⟨rfl,hb1⟩
 have T1:=(Two.start w s p true t q true).step hb1
 clear hb1
 have HT1:Hid (Two w w1 s p true t q true):=T1
 obtain ⟨_,_,a01,a11,a21,b01,b11,b21⟩:=T1
 go_wp2_with fail
 refine (V2 _).mono ?_
 rintro e w2 ⟨rfl,hb2⟩
 clear a01 a11 a21 b01 b11 b21
 have T2:=HT1.out.step hb2
 clear hb2
 have HT2:Hid (Two w w2 s p true t q true):=T2
 obtain ⟨_,_,a02,a12,a22,b02,b12,b22⟩:=T2
 go_wp2_with fail
 refine (L0 _).mono ?_
 rintro e w3 ⟨rfl,hb3⟩
 clear a02 a12 a22 b02 b12 b22
 have T3:=HT2.out.step hb3
 clear hb3
 have HT3:Hid (Two w w3 s p true t q true):=T3
 obtain ⟨_,_,a03,a13,a23,b03,b13,b23⟩:=T3
 go_wp2
 go_region_held3 (fun w'=>w'.cell? ⟨w.heap.size,0,none⟩=some (.string s)/\w'.cell? ⟨w.heap.size,1,none⟩=some (vI p)/\w'.cell? ⟨w.heap.size,2,none⟩=some (.bool true)/\w'.cell? ⟨w.heap.size+1,0,none⟩=some (.string t)/\w'.cell? ⟨w.heap.size+1,1,none⟩=some (vI q)/\w'.cell? ⟨w.heap.size+1,2,none⟩=some (.bool true)) (simp [*,go_sem])
  (first
   | (go_at_call 45;refine (NA _).mono ?_;rintro e w4 ⟨u4,p4,rfl,hx4,hb4⟩;have HNX4:Hid (NX s p u4 p4):=hx4;clear hx4;have HT4:Hid (Two w w4 s p true t q true):=HT3.out.drew.step hb4;clear hb4;obtain ⟨_,_,x04,x14,x24,x34,x44,x54⟩:=HT4.out)
   | (go_at_call 44;refine (LA _ _ HNX4.out _).mono ?_;rintro e w5 ⟨rfl,hb5⟩;have HT5:Hid (Two w w5 s p true t q true):=HT4.out.step hb5;clear hb5;obtain ⟨_,_,x05,x15,x25,x35,x45,x55⟩:=HT5.out;have hle4:¬ aE u4 p4 t q<=0:=fun g=>HBa.out ((dT HNX4.out H2.out).mp g)))
 go_wp2
 go_region_held3 (fun w'=>w'.cell? ⟨w.heap.size,0,none⟩=some (.string s)/\w'.cell? ⟨w.heap.size,1,none⟩=some (vI p)/\w'.cell? ⟨w.heap.size,2,none⟩=some (.bool true)/\w'.cell? ⟨w.heap.size+1,0,none⟩=some (.string t)/\w'.cell? ⟨w.heap.size+1,1,none⟩=some (vI q)/\w'.cell? ⟨w.heap.size+1,2,none⟩=some (.bool true)) (simp [*,go_sem])
  (first
   | (go_at_call 45;refine (NB _).mono ?_;rintro e w6 ⟨u6,p6,rfl,hx6,hb6⟩;have HNX6:Hid (NX t q u6 p6):=hx6;clear hx6;have HT6:Hid (Two w w6 s p true t q true):=HT5.out.drew.step hb6;clear hb6;obtain ⟨_,_,x06,x16,x26,x36,x46,x56⟩:=HT6.out)
   | (go_at_call 44;refine (LB _ _ HNX6.out _).mono ?_;rintro e w7 ⟨rfl,hb7⟩;have HT7:Hid (Two w w7 s p true t q true):=HT6.out.step hb7;clear hb7;obtain ⟨_,_,x07,x17,x27,x37,x47,x57⟩:=HT7.out;have hle6:aE u6 p6 s p<=0:=(dT HNX6.out H1.out).mpr HBb.out))
 go_wp2
 go_ret2
 exact ⟨rfl,HT7.out.bel⟩
theorem aAE {s:ByteArray}{p:Int}{t:ByteArray}{q:Int}(h1:VD s p true) (h2:VD t q true) (hb:¬ dBB s p t q) (hd:¬ dBB t q s p) (w:World) :
 Cb 23 #[dcV s p true,dcV t q true] w (.tuple #[vI 2,vI 0]):=by
 have V1:=fun W=>aH h1 W
 have V2:=fun W=>aH h2 W
 have L0:=fun W=>aM (c:=true) (d:=true) (p:=p) (q:=q) (aO h1) (aO h2) (aQ h1) (aQ h2) W
 have H1:Hid (VD s p true):=h1
 have H2:Hid (VD t q true):=h2
 have NA:=fun W=>bQ (c:=true) (aC h1).pos (aC h1).len (aC h1).dg (aC h1).lo (aC h1).hi W
 have LA:=fun u p' (h:NX s p u p') W=>aM (s:=u) (p:=p') (c:=false) (d:=true) (q:=q) h.len (aO h2) h.dg (aQ h2) W
 have NB:=fun W=>bQ (c:=true) (aC h2).pos (aC h2).len (aC h2).dg (aC h2).lo (aC h2).hi W
 have LB:=fun u p' (h:NX t q u p') W=>aM (s:=u) (p:=p') (c:=false) (t:=s) (d:=true) (q:=p) h.len (aO h1) h.dg (aQ h1) W
 have HBa:Hid (¬ dBB s p t q):=hb
 have HBb:Hid (¬ dBB t q s p):=hd
 clear h1 h2 hb hd
 unfold dcV at *
 go_enter Tryz.func23,Tryz.ntmps23
 go_wp2_with fail
 refine (V1 _).mono ?_
 rintro e w1 ⟨rfl,hb1⟩
 have T1:=(Two.start w s p true t q true).step hb1
 clear hb1
 have HT1:Hid (Two w w1 s p true t q true):=T1
 obtain ⟨_,_,a01,a11,a21,b01,b11,b21⟩:=T1
 go_wp2_with fail
 refine (V2 _).mono ?_
 rintro e w2 ⟨rfl,hb2⟩
 clear a01 a11 a21 b01 b11 b21
 have T2:=HT1.out.step hb2
 clear hb2
 have HT2:Hid (Two w w2 s p true t q true):=T2
 obtain ⟨_,_,a02,a12,a22,b02,b12,b22⟩:=T2
 go_wp2_with fail
 refine (L0 _).mono ?_
 rintro e w3 ⟨rfl,hb3⟩
 clear a02 a12 a22 b02 b12 b22
 have T3:=HT2.out.step hb3
 clear hb3
 have HT3:Hid (Two w w3 s p true t q true):=T3
 obtain ⟨_,_,a03,a13,a23,b03,b13,b23⟩:=T3
 go_wp2
 go_region_held3 (fun w'=>w'.cell? ⟨w.heap.size,0,none⟩=some (.string s)/\w'.cell? ⟨w.heap.size,1,none⟩=some (vI p)/\w'.cell? ⟨w.heap.size,2,none⟩=some (.bool true)/\w'.cell? ⟨w.heap.size+1,0,none⟩=some (.string t)/\w'.cell? ⟨w.heap.size+1,1,none⟩=some (vI q)/\w'.cell? ⟨w.heap.size+1,2,none⟩=some (.bool true)) (simp [*,go_sem])
  (first
   | (go_at_call 45;refine (NA _).mono ?_;rintro e w4 ⟨u4,p4,rfl,hx4,hb4⟩;have HNX4:Hid (NX s p u4 p4):=hx4;clear hx4;have HT4:Hid (Two w w4 s p true t q true):=HT3.out.drew.step hb4;clear hb4;obtain ⟨_,_,x04,x14,x24,x34,x44,x54⟩:=HT4.out)
   | (go_at_call 44;refine (LA _ _ HNX4.out _).mono ?_;rintro e w5 ⟨rfl,hb5⟩;have HT5:Hid (Two w w5 s p true t q true):=HT4.out.step hb5;clear hb5;obtain ⟨_,_,x05,x15,x25,x35,x45,x55⟩:=HT5.out;have hle4:¬ aE u4 p4 t q<=0:=fun g=>HBa.out ((dT HNX4.out H2.out).mp g)))
 go_wp2
 go_region_held3 (fun w'=>w'.cell? ⟨w.heap.size,0,none⟩=some (.string s)/\w'.cell? ⟨w.heap.size,1,none⟩=some (vI p)/\w'.cell? ⟨w.heap.size,2,none⟩=some (.bool true)/\w'.cell? ⟨w.heap.size+1,0,none⟩=some (.string t)/\w'.cell? ⟨w.heap.size+1,1,none⟩=some (vI q)/\w'.cell? ⟨w.heap.size+1,2,none⟩=some (.bool true)) (simp [*,go_sem])
  (first
   | (go_at_call 45;refine (NB _).mono ?_;rintro e w6 ⟨u6,p6,rfl,hx6,hb6⟩;have HNX6:Hid (NX t q u6 p6):=hx6;clear hx6;have HT6:Hid (Two w w6 s p true t q true):=HT5.out.drew.step hb6;clear hb6;obtain ⟨_,_,x06,x16,x26,x36,x46,x56⟩:=HT6.out)
   | (go_at_call 44;refine (LB _ _ HNX6.out _).mono ?_;rintro e w7 ⟨rfl,hb7⟩;have HT7:Hid (Two w w7 s p true t q true):=HT6.out.step hb7;clear hb7;obtain ⟨_,_,x07,x17,x27,x37,x47,x57⟩:=HT7.out;have hle6:¬ aE u6 p6 s p<=0:=fun g=>HBb.out ((dT HNX6.out H1.out).mp g)))
 go_wp2
 go_ret2
 exact ⟨rfl,HT7.out.bel⟩
theorem aAB {s:ByteArray}{p:Int}{t:ByteArray}{q:Int}(h1:VD s p true) (h2:VD t q false) (hb:¬ dBB s p t q) (hl:0<=aE s p t q) (w:World) :
 Cb 23 #[dcV s p true,dcV t q false] w (.tuple #[vI 1,vI 0]):=by
 have V1:=fun W=>aH h1 W
 have V2:=fun W=>aH h2 W
 have L0:=fun W=>aM (c:=true) (d:=false) (p:=p) (q:=q) (aO h1) (aO h2) (aQ h1) (aQ h2) W
 have H1:Hid (VD s p true):=h1
 have H2:Hid (VD t q false):=h2
 have NA:=fun W=>bQ (c:=true) (aC h1).pos (aC h1).len (aC h1).dg (aC h1).lo (aC h1).hi W
 have LA:=fun u p' (h:NX s p u p') W=>aM (s:=u) (p:=p') (c:=false) (d:=false) (q:=q) h.len (aO h2) h.dg (aQ h2) W
 have HBa:Hid (¬ dBB s p t q):=hb
 clear h1 h2 hb
 unfold dcV at *
 go_enter Tryz.func23,Tryz.ntmps23
 go_wp2_with fail
 refine (V1 _).mono ?_
 rintro e w1 ⟨rfl,hb1⟩
 have T1:=(Two.start w s p true t q false).step hb1
 clear hb1
 have HT1:Hid (Two w w1 s p true t q false):=T1
 obtain ⟨_,_,a01,a11,a21,b01,b11,b21⟩:=T1
 go_wp2_with fail
 refine (V2 _).mono ?_
 rintro e w2 ⟨rfl,hb2⟩
 clear a01 a11 a21 b01 b11 b21
 have T2:=HT1.out.step hb2
 clear hb2
 have HT2:Hid (Two w w2 s p true t q false):=T2
 obtain ⟨_,_,a02,a12,a22,b02,b12,b22⟩:=T2
 go_wp2_with fail
 refine (L0 _).mono ?_
 rintro e w3 ⟨rfl,hb3⟩
 clear a02 a12 a22 b02 b12 b22
 have T3:=HT2.out.step hb3
 clear hb3
 have HT3:Hid (Two w w3 s p true t q false):=T3
 obtain ⟨_,_,a03,a13,a23,b03,b13,b23⟩:=T3
 go_wp2
 go_region_held3 (fun w'=>w'.cell? ⟨w.heap.size,0,none⟩=some (.string s)/\w'.cell? ⟨w.heap.size,1,none⟩=some (vI p)/\w'.cell? ⟨w.heap.size,2,none⟩=some (.bool true)/\w'.cell? ⟨w.heap.size+1,0,none⟩=some (.string t)/\w'.cell? ⟨w.heap.size+1,1,none⟩=some (vI q)/\w'.cell? ⟨w.heap.size+1,2,none⟩=some (.bool false)) (simp [*,go_sem])
  (first
   | (go_at_call 45;refine (NA _).mono ?_;rintro e w4 ⟨u4,p4,rfl,hx4,hb4⟩;have HNX4:Hid (NX s p u4 p4):=hx4;clear hx4;have HT4:Hid (Two w w4 s p true t q false):=HT3.out.drew.step hb4;clear hb4;obtain ⟨_,_,x04,x14,x24,x34,x44,x54⟩:=HT4.out)
   | (go_at_call 44;refine (LA _ _ HNX4.out _).mono ?_;rintro e w5 ⟨rfl,hb5⟩;have HT5:Hid (Two w w5 s p true t q false):=HT4.out.step hb5;clear hb5;obtain ⟨_,_,x05,x15,x25,x35,x45,x55⟩:=HT5.out;have hle4:¬ aE u4 p4 t q<=0:=fun g=>HBa.out ((dT HNX4.out H2.out).mp g)))
 go_wp2
 go_quiet (fail)
 go_wp2
 go_ret2
 exact ⟨rfl,(HT5.out.drewN _).bel⟩
theorem aAC {s:ByteArray}{p:Int}{t:ByteArray}{q:Int}(h1:VD s p true) (h2:VD t q false) (hb:¬ dBB s p t q) (hl:¬ 0<=aE s p t q) (w:World) :
 Cb 23 #[dcV s p true,dcV t q false] w (.tuple #[vI 2,vI 0]):=by
 have V1:=fun W=>aH h1 W
 have V2:=fun W=>aH h2 W
 have L0:=fun W=>aM (c:=true) (d:=false) (p:=p) (q:=q) (aO h1) (aO h2) (aQ h1) (aQ h2) W
 have H1:Hid (VD s p true):=h1
 have H2:Hid (VD t q false):=h2
 have NA:=fun W=>bQ (c:=true) (aC h1).pos (aC h1).len (aC h1).dg (aC h1).lo (aC h1).hi W
 have LA:=fun u p' (h:NX s p u p') W=>aM (s:=u) (p:=p') (c:=false) (d:=false) (q:=q) h.len (aO h2) h.dg (aQ h2) W
 have HBa:Hid (¬ dBB s p t q):=hb
 clear h1 h2 hb
 unfold dcV at *
 go_enter Tryz.func23,Tryz.ntmps23
 go_wp2_with fail
 refine (V1 _).mono ?_
 rintro e w1 ⟨rfl,hb1⟩
 have T1:=(Two.start w s p true t q false).step hb1
 clear hb1
 have HT1:Hid (Two w w1 s p true t q false):=T1
 obtain ⟨_,_,a01,a11,a21,b01,b11,b21⟩:=T1
 go_wp2_with fail
 refine (V2 _).mono ?_
 rintro e w2 ⟨rfl,hb2⟩
 clear a01 a11 a21 b01 b11 b21
 have T2:=HT1.out.step hb2
 clear hb2
 have HT2:Hid (Two w w2 s p true t q false):=T2
 obtain ⟨_,_,a02,a12,a22,b02,b12,b22⟩:=T2
 go_wp2_with fail
 refine (L0 _).mono ?_
 rintro e w3 ⟨rfl,hb3⟩
 clear a02 a12 a22 b02 b12 b22
 have T3:=HT2.out.step hb3
 clear hb3
 have HT3:Hid (Two w w3 s p true t q false):=T3
 obtain ⟨_,_,a03,a13,a23,b03,b13,b23⟩:=T3
 go_wp2
 go_region_held3 (fun w'=>w'.cell? ⟨w.heap.size,0,none⟩=some (.string s)/\w'.cell? ⟨w.heap.size,1,none⟩=some (vI p)/\w'.cell? ⟨w.heap.size,2,none⟩=some (.bool true)/\w'.cell? ⟨w.heap.size+1,0,none⟩=some (.string t)/\w'.cell? ⟨w.heap.size+1,1,none⟩=some (vI q)/\w'.cell? ⟨w.heap.size+1,2,none⟩=some (.bool false)) (simp [*,go_sem])
  (first
   | (go_at_call 45;refine (NA _).mono ?_;rintro e w4 ⟨u4,p4,rfl,hx4,hb4⟩;have HNX4:Hid (NX s p u4 p4):=hx4;clear hx4;have HT4:Hid (Two w w4 s p true t q false):=HT3.out.drew.step hb4;clear hb4;obtain ⟨_,_,x04,x14,x24,x34,x44,x54⟩:=HT4.out)
   | (go_at_call 44;refine (LA _ _ HNX4.out _).mono ?_;rintro e w5 ⟨rfl,hb5⟩;have HT5:Hid (Two w w5 s p true t q false):=HT4.out.step hb5;clear hb5;obtain ⟨_,_,x05,x15,x25,x35,x45,x55⟩:=HT5.out;have hle4:¬ aE u4 p4 t q<=0:=fun g=>HBa.out ((dT HNX4.out H2.out).mp g)))
 go_wp2
 go_quiet (fail)
 go_wp2
 go_ret2
 exact ⟨rfl,(HT5.out.drewN _).bel⟩
theorem aAy {s:ByteArray}{p:Int}{t:ByteArray}{q:Int}(h1:VD s p false) (h2:VD t q true) (hd:dBB t q s p) (w:World) :
 Cb 23 #[dcV s p false,dcV t q true] w (.tuple #[vI 1,vI 0]):=by
 have V1:=fun W=>aH h1 W
 have V2:=fun W=>aH h2 W
 have L0:=fun W=>aM (c:=false) (d:=true) (p:=p) (q:=q) (aO h1) (aO h2) (aQ h1) (aQ h2) W
 have H1:Hid (VD s p false):=h1
 have H2:Hid (VD t q true):=h2
 have NB:=fun W=>bQ (c:=true) (aC h2).pos (aC h2).len (aC h2).dg (aC h2).lo (aC h2).hi W
 have LB:=fun u p' (h:NX t q u p') W=>aM (s:=u) (p:=p') (c:=false) (t:=s) (d:=false) (q:=p) h.len (aO h1) h.dg (aQ h1) W
 have HBb:Hid (dBB t q s p):=hd
 clear h1 h2 hd
 unfold dcV at *
 go_enter Tryz.func23,Tryz.ntmps23
 go_wp2_with fail
 refine (V1 _).mono ?_
 rintro e w1 ⟨rfl,hb1⟩
 have T1:=(Two.start w s p false t q true).step hb1
 clear hb1
 have HT1:Hid (Two w w1 s p false t q true):=T1
 obtain ⟨_,_,a01,a11,a21,b01,b11,b21⟩:=T1
 go_wp2_with fail
 refine (V2 _).mono ?_
 rintro e w2 ⟨rfl,hb2⟩
 clear a01 a11 a21 b01 b11 b21
 have T2:=HT1.out.step hb2
 clear hb2
 have HT2:Hid (Two w w2 s p false t q true):=T2
 obtain ⟨_,_,a02,a12,a22,b02,b12,b22⟩:=T2
 go_wp2_with fail
 refine (L0 _).mono ?_
 rintro e w3 ⟨rfl,hb3⟩
 clear a02 a12 a22 b02 b12 b22
 have T3:=HT2.out.step hb3
 clear hb3
 have HT3:Hid (Two w w3 s p false t q true):=T3
 obtain ⟨_,_,a03,a13,a23,b03,b13,b23⟩:=T3
 go_wp2
 go_quiet (fail)
 obtain ⟨W3,hW3⟩:∃ W,W=w3.drewN nq:=⟨_,rfl⟩
 have HT3d:Hid (Two w W3 s p false t q true):=by rw [hW3];exact HT3.out.drewN _
 rw [<- hW3]
 clear hW3
 clear a03 a13 a23 b03 b13 b23
 obtain ⟨_,_,y0,y1,y2,y3,y4,y5⟩:=HT3d.out
 go_wp2
 go_region_held3 (fun w'=>w'.cell? ⟨w.heap.size,0,none⟩=some (.string s)/\w'.cell? ⟨w.heap.size,1,none⟩=some (vI p)/\w'.cell? ⟨w.heap.size,2,none⟩=some (.bool false)/\w'.cell? ⟨w.heap.size+1,0,none⟩=some (.string t)/\w'.cell? ⟨w.heap.size+1,1,none⟩=some (vI q)/\w'.cell? ⟨w.heap.size+1,2,none⟩=some (.bool true)) (simp [*,go_sem])
  (first
   | (go_at_call 45;refine (NB _).mono ?_;rintro e w6 ⟨u6,p6,rfl,hx6,hb6⟩;have HNX6:Hid (NX t q u6 p6):=hx6;clear hx6;have HT6:Hid (Two w w6 s p false t q true):=HT3d.out.drew.step hb6;clear hb6;obtain ⟨_,_,x06,x16,x26,x36,x46,x56⟩:=HT6.out)
   | (go_at_call 44;refine (LB _ _ HNX6.out _).mono ?_;rintro e w7 ⟨rfl,hb7⟩;have HT7:Hid (Two w w7 s p false t q true):=HT6.out.step hb7;clear hb7;obtain ⟨_,_,x07,x17,x27,x37,x47,x57⟩:=HT7.out;have hle6:aE u6 p6 s p<=0:=(dT HNX6.out H1.out).mpr HBb.out))
 go_wp2
 go_ret2
 exact ⟨rfl,HT7.out.bel⟩
theorem aAz {s:ByteArray}{p:Int}{t:ByteArray}{q:Int}(h1:VD s p false) (h2:VD t q true) (hd:¬ dBB t q s p) (hl:aE s p t q<=0) (w:World) :
 Cb 23 #[dcV s p false,dcV t q true] w (.tuple #[vI (-1),vI 0]):=by
 have V1:=fun W=>aH h1 W
 have V2:=fun W=>aH h2 W
 have L0:=fun W=>aM (c:=false) (d:=true) (p:=p) (q:=q) (aO h1) (aO h2) (aQ h1) (aQ h2) W
 have H1:Hid (VD s p false):=h1
 have H2:Hid (VD t q true):=h2
 have NB:=fun W=>bQ (c:=true) (aC h2).pos (aC h2).len (aC h2).dg (aC h2).lo (aC h2).hi W
 have LB:=fun u p' (h:NX t q u p') W=>aM (s:=u) (p:=p') (c:=false) (t:=s) (d:=false) (q:=p) h.len (aO h1) h.dg (aQ h1) W
 have HBb:Hid (¬ dBB t q s p):=hd
 clear h1 h2 hd
 unfold dcV at *
 go_enter Tryz.func23,Tryz.ntmps23
 go_wp2_with fail
 refine (V1 _).mono ?_
 rintro e w1 ⟨rfl,hb1⟩
 have T1:=(Two.start w s p false t q true).step hb1
 clear hb1
 have HT1:Hid (Two w w1 s p false t q true):=T1
 obtain ⟨_,_,a01,a11,a21,b01,b11,b21⟩:=T1
 go_wp2_with fail
 refine (V2 _).mono ?_
 rintro e w2 ⟨rfl,hb2⟩
 clear a01 a11 a21 b01 b11 b21
 have T2:=HT1.out.step hb2
 clear hb2
 have HT2:Hid (Two w w2 s p false t q true):=T2
 obtain ⟨_,_,a02,a12,a22,b02,b12,b22⟩:=T2
 go_wp2_with fail
 refine (L0 _).mono ?_
 rintro e w3 ⟨rfl,hb3⟩
 clear a02 a12 a22 b02 b12 b22
 have T3:=HT2.out.step hb3
 clear hb3
 have HT3:Hid (Two w w3 s p false t q true):=T3
 obtain ⟨_,_,a03,a13,a23,b03,b13,b23⟩:=T3
 go_wp2
 go_quiet (fail)
 obtain ⟨W3,hW3⟩:∃ W,W=w3.drewN nq:=⟨_,rfl⟩
 have HT3d:Hid (Two w W3 s p false t q true):=by rw [hW3];exact HT3.out.drewN _
 rw [<- hW3]
 clear hW3
 clear a03 a13 a23 b03 b13 b23
 obtain ⟨_,_,y0,y1,y2,y3,y4,y5⟩:=HT3d.out
 go_wp2
 go_region_held3 (fun w'=>w'.cell? ⟨w.heap.size,0,none⟩=some (.string s)/\w'.cell? ⟨w.heap.size,1,none⟩=some (vI p)/\w'.cell? ⟨w.heap.size,2,none⟩=some (.bool false)/\w'.cell? ⟨w.heap.size+1,0,none⟩=some (.string t)/\w'.cell? ⟨w.heap.size+1,1,none⟩=some (vI q)/\w'.cell? ⟨w.heap.size+1,2,none⟩=some (.bool true)) (simp [*,go_sem])
  (first
   | (go_at_call 45;refine (NB _).mono ?_;rintro e w6 ⟨u6,p6,rfl,hx6,hb6⟩;have HNX6:Hid (NX t q u6 p6):=hx6;clear hx6;have HT6:Hid (Two w w6 s p false t q true):=HT3d.out.drew.step hb6;clear hb6;obtain ⟨_,_,x06,x16,x26,x36,x46,x56⟩:=HT6.out)
   | (go_at_call 44;refine (LB _ _ HNX6.out _).mono ?_;rintro e w7 ⟨rfl,hb7⟩;have HT7:Hid (Two w w7 s p false t q true):=HT6.out.step hb7;clear hb7;obtain ⟨_,_,x07,x17,x27,x37,x47,x57⟩:=HT7.out;have hle6:¬ aE u6 p6 s p<=0:=fun g=>HBb.out ((dT HNX6.out H1.out).mp g)))
 go_wp2
 go_ret2
 exact ⟨rfl,HT7.out.bel⟩
theorem aAA {s:ByteArray}{p:Int}{t:ByteArray}{q:Int}(h1:VD s p false) (h2:VD t q true) (hd:¬ dBB t q s p) (hl:¬ aE s p t q<=0) (w:World) :
 Cb 23 #[dcV s p false,dcV t q true] w (.tuple #[vI 2,vI 0]):=by
 have V1:=fun W=>aH h1 W
 have V2:=fun W=>aH h2 W
 have L0:=fun W=>aM (c:=false) (d:=true) (p:=p) (q:=q) (aO h1) (aO h2) (aQ h1) (aQ h2) W
 have H1:Hid (VD s p false):=h1
 have H2:Hid (VD t q true):=h2
 have NB:=fun W=>bQ (c:=true) (aC h2).pos (aC h2).len (aC h2).dg (aC h2).lo (aC h2).hi W
 have LB:=fun u p' (h:NX t q u p') W=>aM (s:=u) (p:=p') (c:=false) (t:=s) (d:=false) (q:=p) h.len (aO h1) h.dg (aQ h1) W
 have HBb:Hid (¬ dBB t q s p):=hd
 clear h1 h2 hd
 unfold dcV at *
 go_enter Tryz.func23,Tryz.ntmps23
 go_wp2_with fail
 refine (V1 _).mono ?_
 rintro e w1 ⟨rfl,hb1⟩
 have T1:=(Two.start w s p false t q true).step hb1
 clear hb1
 have HT1:Hid (Two w w1 s p false t q true):=T1
 obtain ⟨_,_,a01,a11,a21,b01,b11,b21⟩:=T1
 go_wp2_with fail
 refine (V2 _).mono ?_
 rintro e w2 ⟨rfl,hb2⟩
 clear a01 a11 a21 b01 b11 b21
 have T2:=HT1.out.step hb2
 clear hb2
 have HT2:Hid (Two w w2 s p false t q true):=T2
 obtain ⟨_,_,a02,a12,a22,b02,b12,b22⟩:=T2
 go_wp2_with fail
 refine (L0 _).mono ?_
 rintro e w3 ⟨rfl,hb3⟩
 clear a02 a12 a22 b02 b12 b22
 have T3:=HT2.out.step hb3
 clear hb3
 have HT3:Hid (Two w w3 s p false t q true):=T3
 obtain ⟨_,_,a03,a13,a23,b03,b13,b23⟩:=T3
 go_wp2
 go_quiet (fail)
 obtain ⟨W3,hW3⟩:∃ W,W=w3.drewN nq:=⟨_,rfl⟩
 have HT3d:Hid (Two w W3 s p false t q true):=by rw [hW3];exact HT3.out.drewN _
 rw [<- hW3]
 clear hW3
 clear a03 a13 a23 b03 b13 b23
 obtain ⟨_,_,y0,y1,y2,y3,y4,y5⟩:=HT3d.out
 go_wp2
 go_region_held3 (fun w'=>w'.cell? ⟨w.heap.size,0,none⟩=some (.string s)/\w'.cell? ⟨w.heap.size,1,none⟩=some (vI p)/\w'.cell? ⟨w.heap.size,2,none⟩=some (.bool false)/\w'.cell? ⟨w.heap.size+1,0,none⟩=some (.string t)/\w'.cell? ⟨w.heap.size+1,1,none⟩=some (vI q)/\w'.cell? ⟨w.heap.size+1,2,none⟩=some (.bool true)) (simp [*,go_sem])
  (first
   | (go_at_call 45;refine (NB _).mono ?_;rintro e w6 ⟨u6,p6,rfl,hx6,hb6⟩;have HNX6:Hid (NX t q u6 p6):=hx6;clear hx6;have HT6:Hid (Two w w6 s p false t q true):=HT3d.out.drew.step hb6;clear hb6;obtain ⟨_,_,x06,x16,x26,x36,x46,x56⟩:=HT6.out)
   | (go_at_call 44;refine (LB _ _ HNX6.out _).mono ?_;rintro e w7 ⟨rfl,hb7⟩;have HT7:Hid (Two w w7 s p false t q true):=HT6.out.step hb7;clear hb7;obtain ⟨_,_,x07,x17,x27,x37,x47,x57⟩:=HT7.out;have hle6:¬ aE u6 p6 s p<=0:=fun g=>HBb.out ((dT HNX6.out H1.out).mp g)))
 go_wp2
 go_ret2
 exact ⟨rfl,HT7.out.bel⟩
def RA (s:ByteArray) (p:Int) (c:Bool) (t:ByteArray) (q:Int) (d:Bool) (n:Int):Prop :=
 match c,d with
 | false,false=>n=aE s p t q
 | true,false=>(dBB s p t q/\n = -1) \/ (¬ dBB s p t q/\0<=aE s p t q/\n=1) \/ (¬ dBB s p t q/\¬ 0<=aE s p t q/\n=2)
 | false,true=>(dBB t q s p/\n=1) \/ (¬ dBB t q s p/\aE s p t q<=0/\n = -1) \/ (¬ dBB t q s p/\¬ aE s p t q<=0/\n=2)
 | true,true=>(dBB s p t q/\n = -1) \/ (¬ dBB s p t q/\dBB t q s p/\n=1) \/ (¬ dBB s p t q/\¬ dBB t q s p/\n=2)
theorem aAx {s:ByteArray}{p:Int}{c:Bool}{t:ByteArray}{q:Int}{d:Bool}(h1:VD s p c) (h2:VD t q d) {n:Int}(h:RA s p c t q d n) (w:World) :
 Cb 23 #[dcV s p c,dcV t q d] w (.tuple #[vI n,vI 0]):=by
 cases c <;> cases d
 . have h':n=aE s p t q:=h
   subst h'
   exact aB8 h1 h2 w
 . rcases (show _ \/ _ \/ _ from h) with ⟨a,rfl⟩ | ⟨a,b,rfl⟩ | ⟨a,b,rfl⟩
   . exact aAy h1 h2 a w
   . exact aAz h1 h2 a b w
   . exact aAA h1 h2 a b w
 . rcases (show _ \/ _ \/ _ from h) with ⟨a,rfl⟩ | ⟨a,b,rfl⟩ | ⟨a,b,rfl⟩
   . exact xJ h1 h2 a w
   . exact aAB h1 h2 a b w
   . exact aAC h1 h2 a b w
 . rcases (show _ \/ _ \/ _ from h) with ⟨a,rfl⟩ | ⟨a,b,rfl⟩ | ⟨a,b,rfl⟩
   . exact xJ h1 h2 a w
   . exact aAD h1 h2 a b w
   . exact aAE h1 h2 a b w
theorem kJ {s t:ByteArray}(ds:DG s) (dt:DG t) (h:s.size<t.size) (he:pv s s.size=pv t s.size) (hl:dgt t (t.size - 1) ≠ 48):pv s t.size<pv t t.size:=by
 obtain ⟨k,hk⟩:∃ k,t.size=(s.size+k)+1:=⟨t.size - s.size - 1,by omega⟩
 have a:=(fN ds dt (Nat.le_refl s.size) k).mpr (by omega)
 have b:dgt s (s.size+k)=48:=cG (by omega)
 have c:=aF dt (s.size+k)
 rw [hk,Nat.add_sub_cancel] at hl
 rw [hk]
 show 10 * pv s (s.size+k)+(dgt s (s.size+k) - 48)<10 * pv t (s.size+k)+(dgt t (s.size+k) - 48)
 omega
theorem iB {s t:ByteArray}(p:Int) (hs:0<s.size) (ht:0<t.size):aE s p t p=aG (pv s (max s.size t.size):Nat) (pv t (max s.size t.size):Nat):=by
 unfold aE
 rw [if_neg (by omega),if_neg (by omega),if_neg (by omega),if_neg (by omega),if_neg (by omega)]
 rfl
theorem aAu {s:ByteArray}{p:Int}{c:Bool}{t:ByteArray}{q:Int}{d:Bool}(h1:VD s p c) (h2:VD t q d) (he:s.size=0 \/ t.size=0):RA s p c t q d (aG (s.size:Int) (t.size:Int)):=by
 cases c <;> cases d
 . show aG _ _=aE s p t q
   unfold aG aE
   by_cases a:s.size=0
   . by_cases b:t.size=0
     . rw [if_neg (by omega),if_neg (by omega),if_pos ⟨a,b⟩]
     . rw [if_pos (by omega),if_neg (by omega),if_pos a]
   . have b:t.size=0:=by omega
     rw [if_neg (by omega),if_pos (by omega),if_neg (by omega),if_neg a,if_pos b]
 . have a:=(aC h2).pos
   have b:s.size=0:=by omega
   refine Or.inr (Or.inl ⟨fun g=>?_,?_,?_⟩)
   . have:=g.1;omega
   . unfold aE;rw [if_neg (by omega),if_pos b];omega
   . unfold aG;rw [if_pos (by omega)]
 . have a:=(aC h1).pos
   have b:t.size=0:=by omega
   refine Or.inr (Or.inl ⟨fun g=>?_,?_,?_⟩)
   . have:=g.1;omega
   . unfold aE;rw [if_neg (by omega),if_neg (by omega),if_pos b];omega
   . unfold aG;rw [if_neg (by omega),if_pos (by omega)]
 . have a:=(aC h1).pos
   have b:=(aC h2).pos
   omega
theorem rF {s:ByteArray}{p:Int}{c:Bool}{t:ByteArray}{q:Int}{d:Bool}(h1:dBB s p t q) (h2:¬ dBB t q s p) (h3:aE s p t q = -1):RA s p c t q d (-1):=by
 cases c <;> cases d
 . exact h3.symm
 . exact Or.inr (Or.inl ⟨h2,by omega,rfl⟩)
 . exact Or.inl ⟨h1,rfl⟩
 . exact Or.inl ⟨h1,rfl⟩
theorem rG {s:ByteArray}{p:Int}{c:Bool}{t:ByteArray}{q:Int}{d:Bool}(h1:dBB t q s p) (h2:¬ dBB s p t q) (h3:aE s p t q=1):RA s p c t q d 1:=by
 cases c <;> cases d
 . exact h3.symm
 . exact Or.inl ⟨h1,rfl⟩
 . exact Or.inr (Or.inl ⟨h2,by omega,rfl⟩)
 . exact Or.inr (Or.inl ⟨h2,h1,rfl⟩)
theorem aAv {s:ByteArray}{p:Int}{c:Bool}{t:ByteArray}{q:Int}{d:Bool}(hs:0<s.size) (ht:0<t.size) (hp:p ≠ q):RA s p c t q d (aG p q):=by
 unfold aG
 by_cases a:p<q
 . rw [if_pos a]
   refine rF ⟨ht,Or.inl a⟩ (fun g=>?_) ?_
   . rcases g.2 with g | g
     . omega
     . exact hp g.1.symm
   . unfold aE;rw [if_neg (by omega),if_neg (by omega),if_neg (by omega),if_pos a]
 . have b:q<p:=by omega
   rw [if_neg a,if_pos b]
   refine rG ⟨hs,Or.inl b⟩ (fun g=>?_) ?_
   . rcases g.2 with g | g
     . omega
     . exact hp g.1
   . unfold aE;rw [if_neg (by omega),if_neg (by omega),if_neg (by omega),if_neg a,if_pos b]
theorem aB6 {s:ByteArray}{p:Int}{c:Bool}{t:ByteArray}{d:Bool}(ds:DG s) (dt:DG t) {i:Nat}(hs:i<s.size) (ht:i<t.size) (he:∀ j,j<i -> dgt s j=dgt t j) (hne:dgt s i ≠ dgt t i):RA s p c t p d (aG (dgt s i:Nat) (dgt t i:Nat)):=by
 unfold aG
 rcases Nat.lt_or_gt_of_ne hne with a | a
 . rw [if_pos (by omega)]
   have k:=fun K (h:i<K)=>cZ ds dt he a h
   refine rF ⟨by omega,Or.inr ⟨rfl,k _ hs⟩⟩ (fun g=>?_) ?_
   . have:=k t.size ht
     rcases g.2 with g | g
     . omega
     . omega
   . rw [iB p (by omega) (by omega)]
     have:=k (max s.size t.size) (by omega)
     unfold aG;rw [if_pos (by omega)]
 . rw [if_neg (by omega),if_pos (by omega)]
   have k:=fun K (h:i<K)=>cZ dt ds (fun j hj=>(he j hj).symm) a h
   refine rG ⟨by omega,Or.inr ⟨rfl,k _ ht⟩⟩ (fun g=>?_) ?_
   . have:=k s.size hs
     rcases g.2 with g | g
     . omega
     . omega
   . rw [iB p (by omega) (by omega)]
     have:=k (max s.size t.size) (by omega)
     unfold aG;rw [if_neg (by omega),if_pos (by omega)]
theorem xD {s:ByteArray}{p:Int}{c:Bool}{t:ByteArray}{d:Bool}(h1:VN s p c) (h2:VN t p d) (he:∀ j,j<min s.size t.size -> dgt s j=dgt t j):RA s p c t p d (bhd (onB s c (min s.size t.size:Nat)) (onB t d (min s.size t.size:Nat))):=by
 have hs:=h1.pos
 have ht:=h2.pos
 have e:=cW _ he
 have L:=iB p hs ht
 by_cases a:s.size<=t.size
 . have m:min s.size t.size=s.size:=by omega
   have M:max s.size t.size=t.size:=by omega
   rw [m] at e ⊢
   rw [M] at L
   have le:pv s t.size<=pv t t.size:=by
    obtain ⟨k,hk⟩:∃ k,t.size=s.size+k:=⟨t.size - s.size,by omega⟩
    rw [hk];exact (fN h1.dg h2.dg (Nat.le_refl _) k).mpr (by omega)
   have B1:¬ dBB s p t p:=fun g=>by rcases g.2 with g | g <;> omega
   have B2:¬ dBB t p s p:=fun g=>by rcases g.2 with g | g <;> omega
   have o1:onB s false (s.size:Nat)=false:=by unfold onB;simp
   have lf0:aE s p t p<=0:=by rw [L,iQ];exact le
   by_cases b:s.size<t.size
   . have o2:onB t false (s.size:Nat)=true:=by unfold onB;simp;omega
     cases c <;> cases d
     . rw [o1,o2]
       have l:=h2.last.resolve_right (by decide)
       rw [<- aA] at l
       have lt:=kJ h1.dg h2.dg b e l
       show -1=aE s p t p
       rw [L];unfold aG;rw [if_pos (by omega)]
     . rw [o1]
       exact Or.inr (Or.inl ⟨B2,lf0,rfl⟩)
     . rw [o2]
       have l:=h2.last.resolve_right (by decide)
       rw [<- aA] at l
       have lt:=kJ h1.dg h2.dg b e l
       refine Or.inr (Or.inr ⟨B1,?_,rfl⟩)
       rw [L,lK];omega
     . exact Or.inr (Or.inr ⟨B1,B2,rfl⟩)
   . have z:t.size=s.size:=by omega
     have o2:onB t false (s.size:Nat)=false:=by unfold onB;simp;omega
     have eq:pv s t.size=pv t t.size:=by rw [z];exact e
     cases c <;> cases d
     . rw [o1,o2]
       show 0=aE s p t p
       rw [L,eq];unfold aG;rw [if_neg (by omega),if_neg (by omega)]
     . rw [o1]
       exact Or.inr (Or.inl ⟨B2,lf0,rfl⟩)
     . rw [o2]
       refine Or.inr (Or.inl ⟨B1,?_,rfl⟩)
       rw [L,lK];omega
     . exact Or.inr (Or.inr ⟨B1,B2,rfl⟩)
 . have m:min s.size t.size=t.size:=by omega
   have M:max s.size t.size=s.size:=by omega
   rw [m] at e ⊢
   rw [M] at L
   have le:pv t s.size<=pv s s.size:=by
    obtain ⟨k,hk⟩:∃ k,s.size=t.size+k:=⟨s.size - t.size,by omega⟩
    rw [hk];exact (fN h2.dg h1.dg (Nat.le_refl _) k).mpr (by omega)
   have B1:¬ dBB s p t p:=fun g=>by rcases g.2 with g | g <;> omega
   have B2:¬ dBB t p s p:=fun g=>by rcases g.2 with g | g <;> omega
   have o1:onB s false (t.size:Nat)=true:=by unfold onB;simp;omega
   have o2:onB t false (t.size:Nat)=false:=by unfold onB;simp
   have lf0:0<=aE s p t p:=by rw [L,lK];exact le
   cases c <;> cases d
   . rw [o1,o2]
     have l:=h1.last.resolve_right (by decide)
     rw [<- aA] at l
     have lt:=kJ h2.dg h1.dg (by omega) e.symm l
     show 1=aE s p t p
     rw [L];unfold aG;rw [if_neg (by omega),if_pos (by omega)]
   . rw [o1]
     have l:=h1.last.resolve_right (by decide)
     rw [<- aA] at l
     have lt:=kJ h2.dg h1.dg (by omega) e.symm l
     refine Or.inr (Or.inr ⟨B2,?_,rfl⟩)
     rw [L,iQ];omega
   . rw [o2]
     exact Or.inr (Or.inl ⟨B1,lf0,rfl⟩)
   . exact Or.inr (Or.inr ⟨B1,B2,rfl⟩)
theorem kE         (s t : ByteArray) : ∀ n, (∀ j, j < n → dgt s j = dgt t j) ∨ ∃ i, i < n ∧ (∀ j, j < i → dgt s j = dgt t j) ∧ dgt s i ≠ dgt t i
  | 0 => Or.inl fun _ h => absurd h (Nat.not_lt_zero _)
  | n + 1 => by
    rcases kE         s t n with h | ⟨i, a, b, c⟩
    · by_cases z : dgt s n = dgt t n
      · refine Or.inl fun j hj => ?_
        by_cases y : j = n
        · rw [y]; exact z
        · exact h j (by omega)
      · exact Or.inr ⟨n, by omega, h, z⟩
    · exact Or.inr ⟨i, by omega, b, c⟩
theorem mY {s:ByteArray}{p:Int}{t:ByteArray}{q:Int}(h1:VD s p false) (h2:VD t q false) (W:World) :
 Cb 32 #[dcV s p false,dcV t q false] W (.tuple #[vI (aE s p t q),.nilIface]):=by
 by_cases a:s.size=0 \/ t.size=0
 . have r:_=aE s p t q:=aAu h1 h2 a
   rw [<- r]
   exact sR h1 h2 a W
 have hs:0<s.size:=by omega
 have ht:0<t.size:=by omega
 by_cases b:p=q
 . subst b
   have n1:VN s p false:=h1.resolve_left (fun g=>by omega)
   have n2:VN t p false:=h2.resolve_left (fun g=>by omega)
   rcases kE s t (min s.size t.size) with g | ⟨i,g1,g2,g3⟩
   . have r:_=aE s p t p:=xD n1 n2 g
     rw [<- r]
     exact pK h1 h2 hs ht (fun j hj x y=>by have:=g j hj;rw [aA x,aA y] at this;exact this) W
   . have i1:i<s.size:=by omega
     have i2:i<t.size:=by omega
     have r:_=aE s p t p:=aB6 (p:=p) (c:=false) (d:=false) n1.dg n2.dg i1 i2 g2 g3
     rw [<- r]
     rw [aA i1,aA i2] at g3 ⊢
     exact vG h1 h2 i i1 i2 (fun j hj x y=>by have:=g2 j hj;rw [aA x,aA y] at this;exact this) g3 W
 . have r:_=aE s p t q:=aAv (c:=false) (d:=false) hs ht b
   rw [<- r]
   exact sS h1 h2 hs ht b W
theorem iW {s:ByteArray}{p:Int}{t:ByteArray}{q:Int}(h1:VD s p false) (h2:VD t q false) (W:World) :
 Cb 23 #[dcV s p false,dcV t q false] W (.tuple #[vI (aE s p t q),vI 0]) :=
 aAx h1 h2 (show aE s p t q=aE s p t q from rfl) W
theorem oL     {s : ByteArray} (hs : DG s) (n : Nat) : ∀ k, ∃ r, pv s (n + k) = pv s n * 10 ^ k + r ∧ r < 10 ^ k
  | 0 => ⟨0, by rw [Nat.pow_zero, Nat.mul_one]; rfl, by decide⟩
  | k + 1 => by
    obtain ⟨r, a, b⟩ := oL     hs n k
    have d := aF     hs (n + k)
    refine ⟨10 * r + (dgt s (n + k) - 48), ?_, by rw [Nat.pow_succ]; omega⟩
    show 10 * pv s (n + k) + (dgt s (n + k) - 48) = _
    rw [a, Nat.pow_succ, ← Nat.mul_assoc]
    omega
theorem iI        {s : ByteArray} {m : Nat} : ∀ k, (∀ i, m ≤ i → i < m + k → dgt s i = 57) → pv s (m + k) + 1 = (pv s m + 1) * 10 ^ k
  | 0, _ => by rw [Nat.pow_zero, Nat.mul_one]; rfl
  | k + 1, h => by
    have ih := iI        k (fun i a b => h i a (by omega))
    have e := h (m + k) (by omega) (by omega)
    show 10 * pv s (m + k) + (dgt s (m + k) - 48) + 1 = _
    rw [Nat.pow_succ, ← Nat.mul_assoc, ← ih, e]
    omega
theorem aDf {s:ByteArray}{m:Nat}(hm:m<=s.size):pv (s.extract 0 m) m=pv s m:=cW m fun _ hj=>aL hm hj
theorem aDg {s:ByteArray}(hd:DG s) {m:Nat}(h0:0<m) (hm:m<=s.size):pv (upS s m) m=pv s m+1:=by
 obtain ⟨a,b⟩:=dN hd h0 hm
 obtain ⟨k,rfl⟩:∃ k,m=k+1:=⟨m - 1,by omega⟩
 have d:=aF hd k
 rw [Nat.add_sub_cancel] at a b
 show 10 * pv (upS s (k+1)) k+(dgt (upS s (k+1)) k - 48)=10 * pv s k+(dgt s k - 48)+1
 rw [cW k a,b]
 omega
theorem eO {x S:Nat}(S0:0<S) (hx:x % S=0):x / S * S=x/\(x+(S - 1)) / S * S=x:=by
 have dm:=Nat.div_add_mod x S
 rw [hx,Nat.add_zero] at dm
 obtain ⟨q,rfl⟩:∃ q,x=S * q:=⟨x / S,dm.symm⟩
 refine ⟨by rw [Nat.mul_div_cancel_left _ S0,Nat.mul_comm],?_⟩
 rw [Nat.mul_add_div S0 q (S - 1),Nat.div_eq_of_lt (show S - 1<S by omega),Nat.add_zero,Nat.mul_comm]
theorem sA {x S:Nat}(S0:0<S) (hx:0<x % S):(x+(S - 1)) / S=x / S+1:=by
 have dm:=Nat.div_add_mod x S
 have md:=Nat.mod_lt x S0
 refine Nat.div_eq_of_lt_le ?_ ?_
 . rw [Nat.add_mul,Nat.one_mul,Nat.mul_comm];omega
 . rw [Nat.add_mul,Nat.add_mul,Nat.one_mul,Nat.mul_comm];omega
structure Du (s:ByteArray) (p:Int) (n:Nat) (s1 s2:ByteArray) (p2:Int):Prop where
 way:(s.size<=n/\s1=s/\s2=s/\p2=p) \/ (n<s.size/\∃ m k,0<m/\m<=n/\(∀ i,m<=i -> i<n -> dgt s i=48)/\dgt s (m - 1) ≠ 48/\s1=s.extract 0 m /\
  k<=n/\(∀ i,k<=i -> i<n -> dgt s i=57)/\((k=0/\s2=⟨#[49]⟩/\p2=p+1) \/ (0<k/\dgt s (k - 1) ≠ 57/\s2=upS s k/\p2=p)))
theorem aD3 {s:ByteArray}{p:Int}{X A:Nat}(h:Dx s p X) (h0:0<s.size) (hp:p<=1000) (pa:p+(R0:Int)=(A:Int)) {n:Nat}(n0:0<n) (hn:n<=17) :
 ∃ s1 s2 p2,Dx s1 p (X / 10 ^ (A - n) * 10 ^ (A - n))/\Dx s2 p2 ((X+(10 ^ (A - n) - 1)) / 10 ^ (A - n) * 10 ^ (A - n))/\Du s p n s1 s2 p2:=by
 have g:=h.vn h0
 have nf:=dF g
 have lo:=h.lo
 have hl:=g.len
 have vl:=h.vl
 rw [pa] at vl lo
 have vl':pv s s.size * 10 ^ (A - s.size)=X:=by rw [<- vl];congr 2;omega
 by_cases c:s.size<=n
 . have S0:0<10 ^ (A - n):=Nat.pow_pos (by decide)
   have mz:X % 10 ^ (A - n)=0:=by
    rw [<- vl',show A - s.size=(A - s.size - (A - n))+(A - n) by omega,Nat.pow_add,<- Nat.mul_assoc,Nat.mul_mod_left]
   obtain ⟨q1,q2⟩:=eO S0 mz
   rw [q1,q2]
   exact ⟨s,s,p,h,h,⟨Or.inl ⟨c,rfl,rfl,rfl⟩⟩⟩
 . have c':n<s.size:=by omega
   obtain ⟨m,m1,m2,m3⟩:=gR s n
   obtain ⟨k,k1,k2,k3⟩:=jS s n
   have mz:0<m:=by
    rcases Nat.eq_zero_or_pos m with c | c
    . exact absurd (m2 0 (by omega) (by omega)) nf.first
    . exact c
   obtain ⟨r,e1,e2⟩:=oL g.dg n (s.size - n)
   rw [show n+(s.size - n)=s.size by omega] at e1
   have r0:0<r:=by
    apply Nat.pos_of_ne_zero
    intro z
    rw [z,Nat.add_zero,show s.size - n=s.size - n - 1+1 by omega,Nat.pow_succ,<- Nat.mul_assoc] at e1
    have:=fP g.dg h0 nf.last
    omega
   have S0:0<10 ^ (A - n):=Nat.pow_pos (by decide)
   have AS:A - n=(s.size - n)+(A - s.size):=by omega
   have xq:X=10 ^ (A - n) * pv s n+r * 10 ^ (A - s.size):=by
    rw [<- vl',e1,AS,Nat.pow_add,Nat.add_mul]
    congr 1
    ac_rfl
   have rl:r * 10 ^ (A - s.size)<10 ^ (A - n):=by
    rw [AS,Nat.pow_add]
    exact Nat.mul_lt_mul_of_pos_right e2 (Nat.pow_pos (by decide))
   have rp:0<r * 10 ^ (A - s.size):=Nat.mul_pos r0 (Nat.pow_pos (by decide))
   have dq:X / 10 ^ (A - n)=pv s n:=by rw [xq,Nat.mul_add_div S0,Nat.div_eq_of_lt rl,Nat.add_zero]
   have mq:X % 10 ^ (A - n)=r * 10 ^ (A - s.size):=by rw [xq,Nat.mul_add_mod,Nat.mod_eq_of_lt rl]
   rw [sA S0 (by rw [mq];exact rp),dq]
   have D1:Dx (s.extract 0 m) p (pv s n * 10 ^ (A - n)):=by
    have z:=aI (s:=s) (k:=m) (by omega)
    refine ⟨Or.inr (eB ⟨by omega,fO g.dg (by omega),by rw [aL (by omega) mz];exact nf.first,by rw [z,aL (by omega) (by omega)];exact m3 mz⟩ (by omega) g.lo g.hi),by omega,?_⟩
    rw [z,aDf (by omega),pa]
    have q:=cT (s:=s) (m:=m) (n - m) (fun i a b=>m2 i a (by omega))
    rw [show m+(n - m)=n by omega] at q
    rw [q,Nat.mul_assoc,<- Nat.pow_add]
    congr 2
    omega
   have q:=iI (s:=s) (m:=k) (n - k) (fun i a b=>k2 i a (by omega))
   rw [show k+(n - k)=n by omega] at q
   by_cases kz:k=0
   . subst kz
     have glo:=g.lo
     refine ⟨_,⟨#[49]⟩,p+1,D1,⟨Or.inr ⟨by decide,by decide,nD,by decide,Or.inl (by decide),by omega,by omega⟩,?_,?_⟩,⟨Or.inr ⟨c',m,0,mz,m1,m2,m3 mz,rfl,k1,k2,Or.inl ⟨rfl,rfl,rfl⟩⟩⟩⟩
     . show ((1:Nat):Int)<=_
       omega
     . rw [show p+1+(R0:Int)=((A+1:Nat):Int) by omega,q]
       show 1 * 10 ^ (((A+1:Nat):Int) - ((1:Nat):Int)).toNat=(0+1) * 10 ^ (n - 0) * 10 ^ (A - n)
       rw [Nat.zero_add,Nat.one_mul,Nat.one_mul,<- Nat.pow_add]
       congr 1
       omega
   . have z:=bM (s:=s) (m:=k) (by omega) (by omega)
     obtain ⟨u1,u2⟩:=dN g.dg (m:=k) (by omega) (by omega)
     have d9:=k3 (by omega)
     have dk:=aF g.dg (k - 1)
     refine ⟨_,upS s k,p,D1,⟨Or.inr (eB ⟨by omega,?_,?_,by rw [z,u2];omega⟩ (by omega) g.lo g.hi),by omega,?_⟩,⟨Or.inr ⟨c',m,k,mz,m1,m2,m3 mz,rfl,k1,k2,Or.inr ⟨by omega,d9,rfl,rfl⟩⟩⟩⟩
     . intro i hi
       rw [<- aA hi]
       by_cases c:i<k - 1
       . rw [u1 i c];exact aF g.dg i
       . rw [show i=k - 1 by omega,u2];omega
     . by_cases c:0<k - 1
       . rw [u1 0 c];exact nf.first
       . have:k - 1=0:=by omega
         rw [this] at u2
         have d0:=aF g.dg 0
         rw [this] at dk
         rw [u2];omega
     . rw [z,aDg g.dg (by omega) (by omega),pa,q,Nat.mul_assoc,<- Nat.pow_add]
       congr 2
       omega
theorem nO {s:ByteArray}{p:Int}{n:Nat}{s1 s2:ByteArray}{p2:Int}(g:VN s p false) (hn:n<=800) (D:Du s p n s1 s2 p2) (W:World) :
 Cb 89 #[dcV s p false,vI n] W (dcV s1 p false):=by
 have hl:=g.len
 rcases D.way with ⟨c,e1,e2,e3⟩ | ⟨c,m,k,mz,m1,m2,m3,rfl,k1,k2,K⟩
 . rw [e1]
   exact dD (Or.inr g:VD _ _ _) (n:=n) (by omega) c W
 . have q:=gU (s:=s) (p:=p) (c:=false) (by omega) (n:=n) (k:=n) (by omega) (by omega) m1 m2 (fun _=>m3) W
   unfold oD at q
   rw [if_neg (by omega)] at q
   exact q
theorem nN {s:ByteArray}{p:Int}{n:Nat}{s1 s2:ByteArray}{p2:Int}(g:VN s p false) (hp:p<=1000) (D:Du s p n s1 s2 p2) (c:n<s.size) (W:World) :
 Cb 88 #[dcV s p false,vI n] W (.tuple #[dcV s2 p2 false,.nilIface]):=by
 have hl:=g.len
 rcases D.way with ⟨c2,e1,e2,e3⟩ | ⟨_,m,k,mz,m1,m2,m3,rfl,k1,k2,K⟩
 . omega
 . rcases K with ⟨rfl,rfl,rfl⟩ | ⟨k0,d9,rfl,rfl⟩
   . have q:=gA (s:=s) (p:=p) (c:=false) (by omega) (n:=n) (by omega) (fun i hi=>k2 i (Nat.zero_le _) hi) g.lo (by omega) W
     rw [if_neg (by omega)] at q
     exact q
   . exact gB g.dg hl (by omega) k1 k0 (fun i a b=>k2 i a b) d9 W
theorem aD4 {s:ByteArray}{p:Int}{n:Nat}{s1 s2:ByteArray}{p2:Int}(g:VN s p false) (hp:p<=1000) (hn:n<=800) (D:Du s p n s1 s2 p2) (W:World) :
 Cb 55 #[dcV s p false,vI n] W (.tuple #[dcV s2 p2 false,.nilIface]):=by
 have hl:=g.len
 have mr:∀ known,MR s p false (n:Int) known:=fun known=>⟨Or.inr g,by omega,by omega,fun z=>by cases z⟩
 by_cases c:s.size<=n
 . have on:onB s false (n:Int)=false:=by unfold onB;rw [Bool.false_or];exact decide_eq_false (by omega)
   rcases D.way with ⟨_,e1,e2,e3⟩ | ⟨c2,_⟩
   . rw [e2,e3]
     exact lN (mr _) on (fun W=>dD (Or.inr g:VD _ _ _) (n:=n) (by omega) c W) W
   . omega
 . have on:onB s false (n:Int)=true:=by unfold onB;rw [Bool.false_or];exact decide_eq_true (by omega)
   exact nP (mr _) on (fun W=>nN g hp D (by omega) W) W
theorem zN       {s : ByteArray} {p : Int} {n : Nat} {s1 s2 : ByteArray} {p2 : Int} (g : VN s p false) (hp : p ≤ 1000) (hn : n ≤ 800) (D : Du s p n s1 s2 p2) (W : World) :
    Calls Tryz.prog 54 #[dcV s p false, .int .i64 n] W fun e w' => e = .returned (.tuple #[if n < s.size ∧ upB s false n = true then dcV s2 p2 false else dcV s1 p false, .nilIface]) ∧ Below W.heap.size W w' := by
  have hl := g.len
  have mr : ∀ known, MR s p false (n : Int) known := fun known => ⟨Or.inr g, by omega, by omega, fun z => by cases z⟩
  by_cases c : n < s.size
  · have on : onB s false (n : Int) = true := by unfold onB; rw [Bool.false_or]; exact decide_eq_true (by omega)
    have U := fun W => oS           (p := p) (c := false) g.dg c hl W
    cases u : upB s false n with
    | true =>
      rw [u] at U
      rw [if_pos ⟨c, rfl⟩]
      exact vR        (mr _) on U (fun W => nN       g hp D c W) W
    | false =>
      rw [u] at U
      rw [if_neg (fun z => by cases z.2)]
      exact vQ        (mr _) on U (fun W => nO       g hn D W) W
  · have on : onB s false (n : Int) = false := by unfold onB; rw [Bool.false_or]; exact decide_eq_false (by omega)
    rw [if_neg (fun z => c z.1)]
    exact kC         (mr _) on (fun W => nO       g hn D W) W
theorem aCN {s:ByteArray}{p:Int}{n:Nat}{s1 s2:ByteArray}{p2:Int}(g:VN s p false) (hp:p<=1000) (n0:0<n) (hn:n<=17) (D:Du s p n s1 s2 p2) :
 (∀ W,Cb 78 #[dcV s p false,vI n] W (.tuple #[dcV s1 p false,vI 0])) /\
 (∀ W,Cb 79 #[dcV s p false,vI n] W (.tuple #[dcV s2 p2 false,vI 0])):=by
 have nf:=dF g
 have hl:=g.len
 have hz:=aAM g.pos
 have vd:VD s p false:=Or.inr g
 rcases D.way with ⟨c,e1,e2,e3⟩ | ⟨c,m,k,mz,m1,m2,m3,rfl,k1,k2,K⟩
 . rw [e1,e2,e3]
   have Mk:∀ W,Cb 117 #[dcV s p false,vI (s.size:Int),.bool false] W (.tuple #[dcV s p false,vI 0]):=fun W=>by
    have q:=qV (c:=false) hl g.dg nf.first g.pos (Nat.le_refl _) (Nat.le_refl s.size) g.pos (fun i a b=>by omega) nf.last g.lo g.hi W
    rw [bL] at q
    exact q
   by_cases e:n=s.size
   . subst e
     exact ⟨fun W=>mM vd (by omega) (by omega) (by omega) Mk W,fun W=>aDx vd (by omega) hz Mk W⟩
   . exact ⟨fun W=>aAG vd (by omega) (by omega) (by omega) Mk W,fun W=>aDy vd (by omega) (by omega) hz (by omega) Mk W⟩
 . have M1:∀ W,Cb 117 #[dcV s p false,vI (n:Int),.bool false] W (.tuple #[dcV (s.extract 0 m) p false,vI 0]):=fun W=>qV hl g.dg nf.first n0 (Nat.le_of_lt c) m1 mz m2 m3 g.lo g.hi W
   have M2:∀ W,Cb 117 #[dcV s p false,vI (n:Int),.bool true] W (.tuple #[dcV s2 p2 false,vI 0]):=fun W=>by
    rcases K with ⟨rfl,rfl,rfl⟩ | ⟨k0,d9,rfl,rfl⟩
    . exact aBP hl g.dg n0 (Nat.le_of_lt c) (fun i hi=>k2 i (Nat.zero_le _) hi) g.lo (by omega) W
    . exact aBQ hl g.dg nf.first n0 (Nat.le_of_lt c) k1 k0 k2 d9 g.lo g.hi W
   exact ⟨fun W=>mM vd (by omega) (by omega) (by omega) M1 W,fun W=>aCf vd (by omega) (by omega) hz (by omega) M2 W⟩
theorem qL {s:ByteArray}{p:Int}{X A:Nat}(h:Dx s p X) (h0:0<s.size) (pa:p+(R0:Int)=(A:Int)) {n:Nat}(hn:n<s.size) :
 ∃ r t,X / 10 ^ (A - n)=pv s n/\X % 10 ^ (A - n)=((dgt s n - 48) * 10 ^ t+r) * 10 ^ (A - s.size)/\10 ^ (A - n)=10 * 10 ^ t * 10 ^ (A - s.size)/\r<10 ^ t/\(r=0 ↔ n+1=s.size):=by
 have g:=h.vn h0
 have nf:=dF g
 have lo:=h.lo
 have vl:=h.vl
 rw [pa] at vl lo
 have vl':pv s s.size * 10 ^ (A - s.size)=X:=by rw [<- vl];congr 2;omega
 obtain ⟨r,e1,e2⟩:=oL g.dg (n+1) (s.size - (n+1))
 rw [show n+1+(s.size - (n+1))=s.size by omega] at e1
 have es:pv s (n+1)=10 * pv s n+(dgt s n - 48):=rfl
 have AS:A - n=1+(s.size - (n+1))+(A - s.size):=by omega
 have eS:10 ^ (A - n)=10 * 10 ^ (s.size - (n+1)) * 10 ^ (A - s.size):=by rw [AS,Nat.pow_add,Nat.pow_add,Nat.pow_one]
 have d:=aF g.dg n
 have P0:0<10 ^ (A - s.size):=Nat.pow_pos (by decide)
 have small:(dgt s n - 48) * 10 ^ (s.size - (n+1))+r<10 * 10 ^ (s.size - (n+1)):=by
  have:(dgt s n - 48) * 10 ^ (s.size - (n+1))<=9 * 10 ^ (s.size - (n+1)):=Nat.mul_le_mul_right _ (by omega)
  omega
 have xq:X=10 ^ (A - n) * pv s n+((dgt s n - 48) * 10 ^ (s.size - (n+1))+r) * 10 ^ (A - s.size):=by
  rw [<- vl',e1,es,eS]
  generalize 10 ^ (s.size - (n+1))=a
  generalize 10 ^ (A - s.size)=c
  generalize dgt s n - 48=k
  generalize pv s n=v
  rw [Nat.add_mul,Nat.add_mul,Nat.add_mul,Nat.add_mul,Nat.mul_assoc 10 a c,Nat.mul_assoc 10 v a,Nat.mul_assoc 10 (v * a) c,Nat.mul_assoc 10 (a * c) v,Nat.mul_assoc v a c,Nat.mul_comm (a * c) v]
  omega
 have lt:((dgt s n - 48) * 10 ^ (s.size - (n+1))+r) * 10 ^ (A - s.size)<10 ^ (A - n):=by
  rw [eS]
  exact Nat.mul_lt_mul_of_pos_right small P0
 have S0:0<10 ^ (A - n):=Nat.pow_pos (by decide)
 refine ⟨r,s.size - (n+1),?_,?_,eS,e2,?_⟩
 . rw [xq,Nat.mul_add_div S0,Nat.div_eq_of_lt lt,Nat.add_zero]
 . have e:=Nat.mul_add_mod (10 ^ (A - n)) (pv s n) (((dgt s n - 48) * 10 ^ (s.size - (n+1))+r) * 10 ^ (A - s.size))
   rw [<- xq,Nat.mod_eq_of_lt lt] at e
   exact e
 . constructor
   . intro z
     apply Nat.le_antisymm (by omega)
     apply Nat.le_of_not_lt
     intro c
     rw [z,Nat.add_zero,show s.size - (n+1)=s.size - (n+1) - 1+1 by omega,Nat.pow_succ,<- Nat.mul_assoc] at e1
     have:=fP g.dg h0 nf.last
     omega
   . intro z
     rw [show s.size - (n+1)=0 by omega,Nat.pow_zero] at e2
     omega
theorem zU {s:ByteArray}{p:Int}{X A:Nat}(h:Dx s p X) (h0:0<s.size) (pa:p+(R0:Int)=(A:Int)) {n:Nat}(hn:n<s.size) :
 (10 ^ (A - n)<2 * (X % 10 ^ (A - n)) ↔ 53<dgt s n \/ (dgt s n=53/\n+1<s.size))/\(2 * (X % 10 ^ (A - n))=10 ^ (A - n) ↔ dgt s n=53/\n+1=s.size):=by
 obtain ⟨r,t,_,e2,e3,e4,e5⟩:=qL h h0 pa hn
 have d:=aF (h.vn h0).dg n
 rw [e2,e3]
 have P0:0<10 ^ (A - s.size):=Nat.pow_pos (by decide)
 have k1:10 * 10 ^ t * 10 ^ (A - s.size)<2 * (((dgt s n - 48) * 10 ^ t+r) * 10 ^ (A - s.size)) ↔ 10 * 10 ^ t<2 * ((dgt s n - 48) * 10 ^ t+r):=by
  rw [<- Nat.mul_assoc 2];exact Nat.mul_lt_mul_right P0
 have k2:2 * (((dgt s n - 48) * 10 ^ t+r) * 10 ^ (A - s.size))=10 * 10 ^ t * 10 ^ (A - s.size) ↔ 2 * ((dgt s n - 48) * 10 ^ t+r)=10 * 10 ^ t:=by
  rw [<- Nat.mul_assoc 2];exact Nat.mul_right_cancel_iff P0
 rw [k1,k2]
 generalize 10 ^ t=a at *
 have key:∀ k,dgt s n=48+k -> k<=9 -> (10 * a<2 * (k * a+r) ↔ 53<48+k \/ (48+k=53/\n+1<s.size))/\(2 * (k * a+r)=10 * a ↔ 48+k=53/\n+1=s.size):=by
  intro k _ hk
  rcases (by omega:k=0 \/ k=1 \/ k=2 \/ k=3 \/ k=4 \/ k=5 \/ k=6 \/ k=7 \/ k=8 \/ k=9) with rfl | rfl | rfl | rfl | rfl | rfl | rfl | rfl | rfl | rfl <;> constructor <;> constructor <;> omega
 have q:=key (dgt s n - 48) (by omega) (by omega)
 rw [show 48+(dgt s n - 48)=dgt s n by omega] at q
 exact q
theorem aDR {s:ByteArray}{p:Int}{X A:Nat}(h:Dx s p X) (h0:0<s.size) (pa:p+(R0:Int)=(A:Int)) {n:Nat}(n0:0<n) (hn:n<s.size) :
 upB s false n=true ↔ 10 ^ (A - n)<2 * (X % 10 ^ (A - n)) \/ (2 * (X % 10 ^ (A - n))=10 ^ (A - n)/\X / 10 ^ (A - n) % 2=1):=by
 obtain ⟨q1,q2⟩:=zU h h0 pa hn
 obtain ⟨_,_,e1,_⟩:=qL h h0 pa hn
 rw [q1,q2,e1]
 have d:=aF (h.vn h0).dg (n - 1)
 have par:pv s n % 2=(dgt s (n - 1) - 48) % 2:=by
  obtain ⟨k,rfl⟩:∃ k,n=k+1:=⟨n - 1,by omega⟩
  show (10 * pv s k+(dgt s k - 48)) % 2=_
  rw [Nat.add_sub_cancel]
  omega
 rw [par]
 unfold upB
 by_cases c:dgt s n=53
 . rw [if_pos c,Bool.false_or]
   simp only [Bool.or_eq_true,Bool.and_eq_true,decide_eq_true_eq]
   omega
 . rw [if_neg c,decide_eq_true_eq]
   omega
theorem OneR.put {w W:World}{s:ByteArray}{p:Int}{c:Bool}(h:OneR w W s p c) {g:Nat}(hg:w.heap.size+2<=g) (i:Nat) (v:Value):OneR w (W.setCell ⟨g,i,none⟩ v) s p c:=by
 have k:∀ b o,b<w.heap.size+2 -> (W.setCell ⟨g,i,none⟩ v).cell? ⟨b,o,none⟩=W.cell? ⟨b,o,none⟩:=fun b o hb=>World.cell?_setCell_other W ⟨g,i,none⟩ ⟨b,o,none⟩ v (by intro q;injection q with q _ _;omega)
 exact ⟨by rw [World.size_setCell];exact h.sz,h.bel.setCell (by show w.heap.size<=g;omega) v,(k _ _ (by omega)).trans h.a0,(k _ _ (by omega)).trans h.a1,(k _ _ (by omega)).trans h.a2,(k _ _ (by omega)).trans h.r0,(k _ _ (by omega)).trans h.r1,(k _ _ (by omega)).trans h.r2,fun o=>by rw [World.frozen?_setCell];exact h.fr o⟩
theorem zC {w U:World}{s:ByteArray}{p:Int}{c:Bool}(hO:OneR w U s p c) (t:ByteArray) (ht:t.size<=801):∃ W1 C,(Go.convert 9 88 (.string t)).run Tryz.prog U=.ok (.slice (some ⟨U.heap.size,0,none⟩) t.size C) W1/\t.size<=C/\C<=maxLen/\OneR w W1 s p c/\BRow W1 U.heap.size t.size (dgt t):=by
 have hL:=Lib.run_convert_string_bytes (P:=Tryz.prog) U 9 88 5 t bZ aU dC
 have bU:Bl U (Lib.bytesWorld U 5 t):=⟨rfl,rfl,rfl,by rw [Lib.bytesWorld_size];omega,fun k hk=>Lib.bytesWorld_at_old U 5 t k hk⟩
 refine ⟨Lib.bytesWorld U 5 t,grownCap U t.size 0 5,hL,grownCap_ge _ _ _ _,grownCap_le_maxLen _ _ _ _ (Nat.le_trans ht (by decide)),hO.step bU,?_⟩
 refine ⟨fun i hi=>?_,fun i hi=>?_⟩
 . have q:=Lib.bytesWorld_cell U 5 t i hi
   rw [eN hi] at q
   exact q
 . have q:=Lib.bytesWorld_at_new U 5 t
   unfold World.frozen?
   rw [q]
   have z:¬ (Lib.bytesCells U 5 t).size<=i:=by
    unfold Lib.bytesCells
    simp
    omega
   simp [z]
theorem aBj (a b:ByteArray) (i:Nat):dgt (a ++ b) i=if i<a.size then dgt a i else dgt b (i - a.size):=by
 unfold dgt
 by_cases h:i<a.size
 . rw [if_pos h,dif_pos h,dif_pos (by rw [ByteArray.size_append];omega),ByteArray.getElem_append_left h]
 . rw [if_neg h]
   by_cases h':i - a.size<b.size
   . rw [dif_pos h',dif_pos (by rw [ByteArray.size_append];omega),ByteArray.getElem_append_right (by omega)]
   . rw [dif_neg h',dif_neg (by rw [ByteArray.size_append];omega)]
theorem tW {s:ByteArray}{p:Int}(h:VD s p false) {s2:ByteArray}{p2 kk:Int}{c2:Bool}(Mk:∀ W,Cb 46 #[.string (tmS s 2),vI (p+1),.bool false] W (.tuple #[dcV s2 p2 c2,vI kk])) (w:World) :
 Cb 27 #[dcV s p false] w (.tuple #[dcV s2 p2 c2,vI kk]):=by
 have VV:=fun W=>aH h W
 have hl:s.size<=800:=by
  rcases h with g | g
  . have:=g.1;omega
  . exact g.len
 have hd:DG s:=by
  rcases h with g | g
  . intro i hi;have:=g.1;omega
  . exact g.dg
 have HD:Hid (DG s):=hd
 obtain ⟨n,hn⟩:∃ n,n=s.size:=⟨_,rfl⟩
 obtain ⟨t,ht⟩:∃ t,t=(⟨#[48]⟩:ByteArray) ++ s:=⟨_,rfl⟩
 have tz:t.size=n+1:=by rw [ht,ByteArray.size_append,show (⟨#[48]⟩:ByteArray).size=1 from rfl];omega
 have qq:∀ W,(Op.stringOp .add ⟨#[48]⟩ s).run Tryz.prog W=.ok (.string t) W:=fun W=>by rw [ht];exact run_string_add_sum W _ _ (by rw [show (⟨#[48]⟩:ByteArray).size=1 from rfl];omega)
 have TD:Hid (∀ i,dgt t i=if i=0 then 48 else dgt s (i - 1)):=fun i=>by
  rw [ht,aBj,show (⟨#[48]⟩:ByteArray).size=1 from rfl]
  by_cases z:i=0
  . rw [if_pos z,if_pos (by omega),z];rfl
  . rw [if_neg z,if_neg (by omega)]
 have Hn:Hid (n=s.size/\n<=800):=⟨hn,by omega⟩
 obtain ⟨u,hu⟩:∃ u,u=tmS s 2:=⟨_,rfl⟩
 rw [<- hu] at Mk
 have HU:Hid (u=tmS s 2):=hu
 have wn:IntKind.i64.wrap (n:Int)=(n:Int):=by
  unfold IntKind.wrap
  simp [IntKind.bits,IntKind.signed]
  omega
 have wp:IntKind.i64.wrap (p+1)=p+1:=by
  have hp:-1099511627776<=p/\p<=1099511627776:=by
   rcases h with g | g
   . have:=g.2.1;omega
   . exact ⟨g.lo,g.hi⟩
  unfold IntKind.wrap
  simp [IntKind.bits,IntKind.signed]
  omega
 clear h hl hd ht hu
 unfold dcV at *
 go_enter Tryz.func27,Tryz.ntmps27
 go_wp2_with fail
 refine (VV _).mono ?_
 rintro e w1 ⟨rfl,hb1⟩
 have O1:Hid (OneR w w1 s p false):=(OneR.start w s p false).step hb1
 clear hb1 VV
 obtain ⟨W1,C,hcv,hC,hC',O2,R2⟩:=zC O1.out t (by have:=Hn.out;omega)
 obtain ⟨g,hg⟩:∃ g,g=w1.heap.size:=⟨_,rfl⟩
 rw [tz] at hcv hC R2
 rw [<- hg] at hcv R2
 have GL:Hid (w.heap.size+2<=g):=by show w.heap.size+2<=g;rw [hg];exact O1.out.sz
 have HO2:Hid (OneR w W1 s p false):=O2
 have HR2:Hid (BRow W1 g (n+1) (dgt t)):=R2
 clear O2 R2 hn tz hg
 obtain ⟨_,_,a0,a1,a2,_,_,_,_⟩:=O1.out
 go_wp2
 clear hcv a0 a1 a2
 go_loopw [5,6] (fun cy iv wr=>∃ (m cv:Nat) (F:Nat -> Nat),cy=.int .u8 (cv:Int)/\iv=vI ((m:Int) - 1)/\m<=n+1/\Hid (OneR w wr s p false)/\Hid (BRow wr g (n+1) F)/\Hid ((∀ i,m<=i -> i<=n -> F i=tm s 2 i)/\(∀ i,i<m -> F i=dgt t i)/\cv<=8/\(1<=m -> cv=ct s 2 (n+1 - m)))) (fun _ iv _=>(intOf iv+1).toNat)
 case atStart=>exact ⟨n+1,0,dgt t,rfl,by go_num,Nat.le_refl _,HO2,HR2,fun i a b=>absurd a (by omega),fun _ _=>rfl,by omega,fun _=>by rw [Nat.sub_self];rfl⟩
 case round =>
  obtain ⟨m,cv,F,rfl,rfl,hm,HO,HR,HF⟩:=hrel
  by_cases c1:0<m
  . obtain ⟨b,hb⟩:∃ b,b=m - 1:=⟨_,rfl⟩
    have hn:=Hn.out
    obtain ⟨hF1,hF2,hF3,hF4⟩:=HF.out
    have ib:(m:Int) - 1=(b:Int):=by omega
    obtain ⟨x,hx⟩:∃ x,x=F b:=⟨_,rfl⟩
    have ex:x=if b=0 then 48 else dgt s (b - 1):=by rw [hx,hF2 b (by omega),TD.out b]
    have xd:48<=x/\x<=57:=by
     rw [ex];split
     . omega
     . exact aF HD.out _
    obtain ⟨y,hy⟩:∃ y,y=x - 48:=⟨_,rfl⟩
    obtain ⟨v,hv⟩:∃ v,v=2 * y+cv:=⟨_,rfl⟩
    obtain ⟨r,hr⟩:∃ r,r=v % 10:=⟨_,rfl⟩
    obtain ⟨q,hq⟩:∃ q,q=v / 10:=⟨_,rfl⟩
    obtain ⟨d,hdd⟩:∃ d,d=48+r:=⟨_,rfl⟩
    have HT:Hid (d=tm s 2 b/\q<=8/\(1<=b -> q=ct s 2 (n+1 - b))):=by
     have e4:=hF4 c1
     refine ⟨?_,by omega,fun hb1=>?_⟩
     . unfold tm
       by_cases z:b=0
       . rw [if_pos z] at ex ⊢
         rw [<- hn.1,show n=n+1 - m by omega,<- e4]
         omega
       . rw [if_neg z] at ex ⊢
         rw [<- hn.1,show n - b=n+1 - m by omega,<- e4,<- ex]
         omega
     . rw [if_neg (by omega)] at ex
       rw [show n+1 - b=(n+1 - m)+1 by omega]
       unfold ct
       rw [<- e4,<- hn.1,show n - 1 - (n+1 - m)=b - 1 by omega,<- ex]
       omega
    have cc:=HR.out.cell b (by omega)
    have cf:=HR.out.fr b (by omega)
    rw [<- hx] at cc
    rw [ib]
    have e1:IntKind.u8.wrap ((x:Int) - 48)=(y:Int):=by
     unfold IntKind.wrap
     simp [IntKind.bits,IntKind.signed]
     omega
    have e2:IntKind.u8.wrap (2 * (y:Int))=((2 * y:Nat):Int):=by
     unfold IntKind.wrap
     simp [IntKind.bits,IntKind.signed]
     omega
    have e3:IntKind.u8.wrap (((2 * y:Nat):Int)+(cv:Int))=(v:Int):=by
     unfold IntKind.wrap
     simp [IntKind.bits,IntKind.signed]
     omega
    have e3':IntKind.u8.wrap (2 * (y:Int)+(cv:Int))=(v:Int):=by
     unfold IntKind.wrap
     simp [IntKind.bits,IntKind.signed]
     omega
    have e5:(v:Int).tmod 10=(r:Int):=by rw [Int.tmod_eq_emod_of_nonneg (by omega)];omega
    have e5':(v:Int) % 10=(r:Int):=by omega
    have e7:IntKind.u8.wrap (48+(r:Int))=(d:Int):=by
     unfold IntKind.wrap
     simp [IntKind.bits,IntKind.signed]
     omega
    have e8:(v:Int) / 10=(q:Int):=by omega
    have e9:IntKind.u8.wrap (q:Int)=(q:Int):=by
     unfold IntKind.wrap
     simp [IntKind.bits,IntKind.signed]
     omega
    have e10:IntKind.i64.wrap ((b:Int) - 1)=(b:Int) - 1:=by
     unfold IntKind.wrap
     simp [IntKind.bits,IntKind.signed]
     omega
    have i0:(0:Int)<=(b:Int):=by omega
    have i1:(b:Int)<(n:Int)+1:=by omega
    have HA:Hid (b=m - 1/\0<m/\m<=n+1):=⟨hb,c1,hm⟩
    clear hb hn hF1 hF2 hF3 hF4 ib hx ex xd hy hv hr hq hdd c1 hm
    go_wp2
    go_roundw
    case rel =>
     refine ⟨b,q,aJ F b d,rfl,by go_num,by have:=HA.out;omega,HO.out.put GL.out _ _,HR.out.set (by have:=HA.out;omega) d,fun i h1 h2=>?_,fun i hi=>?_,HT.out.2.1,HT.out.2.2⟩
     . unfold aJ
       by_cases z:i=b
       . rw [if_pos z,z];exact HT.out.1
       . rw [if_neg z];exact HF.out.1 i (by have:=HA.out;omega) h2
     . unfold aJ
       rw [if_neg (by omega)]
       exact HF.out.2.1 i (by have:=HA.out;omega)
    case measure=>have:=HA.out;(simp [intOf] <;> omega)
  . obtain rfl:m=0:=by omega
    obtain ⟨_,_,a0,a1,a2,r0,r1,r2,fr⟩:=HO.out
    have hcv:(Go.convert 88 9 (.slice (some ⟨g,0,none⟩) (n+1) C)).run Tryz.prog wr=.ok (.string u) wr:=by
     have hs:=Hn.out.1
     rw [HU.out]
     unfold tmS
     rw [<- hs]
     refine run_convert_bytes_arg wr 88 5 aU dC g 0 (n+1) C _ (by simp) ?_ 9 bZ
     intro i hi
     have q:=HR.out.cell i hi
     rw [Nat.zero_add,q,HF.out.1 i (by omega) (by omega)]
     simp [List.getD_eq_getElem?_getD,hi]
    go_wp2_with fail
    refine (Mk _).mono ?_
    rintro e w3 ⟨rfl,hb3⟩
    have O3:Hid (OneR w w3 s p false):=HO.out.step hb3
    clear hb3 hcv a0 a1 a2 r0 r1 r2 fr
    obtain ⟨_,_,a0,a1,a2,r0,r1,r2,fr⟩:=O3.out
    go_wp2
    refine bodyPost_ret (v:=.tuple #[.agg #[.string s2,vI p2,.bool c2],vI kk]) (by simp [results,Tryz.results27,go_sem, *]) rfl ⟨rfl,?_⟩
    exact (((O3.out.bel.setCell (by simp) _).setCell (by simp) _).setCell (by simp) _)
end Go.Proofs.YtblkokjkmbpejaaGreatDoor
