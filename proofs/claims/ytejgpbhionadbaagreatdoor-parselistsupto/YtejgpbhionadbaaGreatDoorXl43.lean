/-
  Holds: UScXa.
-/
import Derived.Test.YtejgpbhionadbaaGreatDoorChecked
import Derived.WalkKit
import Derived.Deep.DeepMust
import Derived.Lib.Strings
import Derived.Lib.BufferWrite
import Derived.Deep.OwnRows
import Derived.Deep.RegionHeld3
import Derived.Deep.QuietTactic
import Derived.BigQuiet
import Derived.Deep.AppendLies
import Derived.Lib.ConvBytes
import Derived.Test.YtejgpbhionadbaaGreatDoorShelf
import Derived.Deep.DeepCutAuto
import Derived.Test.YtejgpbhionadbaaGreatDoorXl32
set_option maxRecDepth 100000
set_option maxHeartbeats 4000000
namespace Go.Proofs.YtejgpbhionadbaaGreatDoor
open Go.RowKit
theorem QW.all {w wr:World}{g:Bool}{k:Int}(h:QW w wr g k):(w.heap.size+1<wr.heap.size/\(∀ o,wr.frozen? ⟨w.heap.size+1,o,none⟩=false)/\∀ o,wr.frozen? ⟨w.heap.size,o,none⟩=false) /\
 (wr.cell? ⟨w.heap.size+1,0,none⟩=some (.bool g)/\wr.cell? ⟨w.heap.size+1,1,none⟩=some (vI k)/\wr.cell? ⟨w.heap.size+1,2,none⟩=some (.string ⟨#[]⟩)/\wr.cell? ⟨w.heap.size+1,3,none⟩=some (vI 0)/\wr.cell? ⟨w.heap.size+1,4,none⟩=some (.bool false)/\wr.cell? ⟨w.heap.size+1,5,none⟩=some (vU 0)/\wr.cell? ⟨w.heap.size+1,6,none⟩=some (vI 0)/\wr.cell? ⟨w.heap.size+1,7,none⟩=some (.bool false)) /\
 (wr.cell? ⟨w.heap.size,0,none⟩=some (.bool false)/\wr.cell? ⟨w.heap.size,1,none⟩=some (vI 0)/\wr.cell? ⟨w.heap.size,2,none⟩=some (.string ⟨#[]⟩)/\wr.cell? ⟨w.heap.size,3,none⟩=some (vI 0)/\wr.cell? ⟨w.heap.size,4,none⟩=some (.bool false)/\wr.cell? ⟨w.heap.size,5,none⟩=some (vU 0)/\wr.cell? ⟨w.heap.size,6,none⟩=some (vI 0)/\wr.cell? ⟨w.heap.size,7,none⟩=some (.bool false)) :=
 ⟨⟨h.sz,h.pf,h.fr⟩,⟨h.p 0,h.p 1,h.p 2,h.p 3,h.p 4,h.p 5,h.p 6,h.p 7⟩,⟨h.r 0,h.r 1,h.r 2,h.r 3,h.r 4,h.r 5,h.r 6,h.r 7⟩⟩
theorem aLB (s:ByteArray) (w:World) {V:Value}{c0 x1 x2 y2 x3 y3 x4 y4 X1 e1 X2 e2 eh ed n2 en v1 v3 v5 v6 dp:Int}{neg pl nn wi wf b1 hx okh p3 ok1 okd p4 ok2 v0 v4 v7 dc:Bool}{i:Nat}{hW hP dW dP v2 dd:ByteArray}
 (hneg:(c0 == 45)=neg)
 (hpl:(c0 == 43)=pl)
 (hi:(neg=true/\i=1) \/ (neg=false/\pl=true/\i=1) \/ (neg=false/\pl=false/\i=0))
 (A0:∀ W,Cs 51 #[.string s,vI 0] W (.int .u8 c0))
 (hnn:i=1 -> nn=false)
 (WNA:i=0 -> ∀ W,Cb 52 #[.string s,vI 0,.string ⟨#[110,97,110]⟩] W (.bool nn))
 (WIN:∀ W,Cb 52 #[.string s,vI (i:Int),.string ⟨#[105,110,102,105,110,105,116,121]⟩] W (.bool wi))
 (WIF:∀ W,Cb 52 #[.string s,vI (i:Int),.string ⟨#[105,110,102]⟩] W (.bool wf))
 (AT1:∀ W,Cs 51 #[.string s,vI (i:Int)] W (.int .u8 x1))
 (hb1:(x1 == 48)=b1)
 (AT2:∀ W,Cs 51 #[.string s,vI ((i:Int)+1)] W (.int .u8 x2))
 (SM2:∀ W,Cs 53 #[.int .u8 x2] W (.int .u8 y2))
 (hx1:b1=false -> hx=false)
 (hx2:b1=true -> (y2 == 120)=hx)
 (MH:hx=true -> ∀ W,Cb 54 #[.string s,vI ((i:Int)+2),.bool true] W (.tuple #[.string hW,.string hP,vI eh,.bool okh]))
 (heh:hx=true -> okh=true -> 0<=eh/\eh<=140737488351236)
 (AT3:hx=true -> okh=true -> ∀ W,Cs 51 #[.string s,vI eh] W (.int .u8 x3))
 (SM3:∀ W,Cs 53 #[.int .u8 x3] W (.int .u8 y3))
 (p3a:okh=false -> p3=false)
 (p3b:okh=true -> (y3 == 112)=p3)
 (EX1:hx=true -> okh=true -> p3=true -> ∀ W,Cb 55 #[.string s,vI (eh+1)] W (.tuple #[vI X1,vI e1,.bool ok1]))
 (HX:hx=true -> okh=true -> p3=true -> ok1=true -> ∀ W,Cb 56 #[.string hW,.string hP,vI X1] W (.agg #[.bool v0,vI v1,.string v2,vI v3,.bool v4,vU v5,vI v6,.bool v7]))
 (MD:∀ W,Cb 54 #[.string s,vI (i:Int),.bool false] W (.tuple #[.string dW,.string dP,vI ed,.bool okd]))
 (hed:okd=true -> 0<=ed/\ed<=140737488351236)
 (AT4:okd=true -> ∀ W,Cs 51 #[.string s,vI ed] W (.int .u8 x4))
 (SM4:∀ W,Cs 53 #[.int .u8 x4] W (.int .u8 y4))
 (hp4:(y4 == 101)=p4)
 (EX2:okd=true -> p4=true -> ∀ W,Cb 55 #[.string s,vI (ed+1)] W (.tuple #[vI X2,vI e2,.bool ok2]))
 (hn:(p4=false/\n2=0/\en=ed) \/ (p4=true/\ok2=false/\n2=0/\en=ed) \/ (p4=true/\ok2=true/\n2=X2/\en=e2))
 (DE:okd=true -> ∀ W,Cb 57 #[.string dW,.string dP,vI n2] W (.agg #[.string dd,vI dp,.bool dc]))
 (L1:nn=true -> V=.tuple #[agP false 4 ⟨#[]⟩ 0 false 0 0 false,vI 3,vI 0])
 (L2:nn=false -> wi=true -> V=.tuple #[agP neg 3 ⟨#[]⟩ 0 false 0 0 false,vI ((i:Int)+8),vI 0])
 (L3:nn=false -> wi=false -> wf=true -> V=.tuple #[agP neg 3 ⟨#[]⟩ 0 false 0 0 false,vI ((i:Int)+3),vI 0])
 (L4:nn=false -> wi=false -> wf=false -> hx=true -> okh=true -> p3=true -> ok1=true -> V=.tuple #[agP neg v1 v2 v3 v4 v5 v6 v7,vI e1,vI 0])
 (L5:nn=false -> wi=false -> wf=false -> (hx=true -> okh=true -> p3=true -> ok1=false) -> okd=false -> V=.tuple #[agP false 0 ⟨#[]⟩ 0 false 0 0 false,vI 0,vI 3])
 (L6:nn=false -> wi=false -> wf=false -> (hx=true -> okh=true -> p3=true -> ok1=false) -> okd=true -> V=.tuple #[agP neg 1 dd dp dc 0 0 false,vI en,vI 0])
 : Cb 29 #[.string s] w V:=by
 have Hhpl:Hid _:=hpl
 have Hhi:Hid _:=hi
 have HA0:Hid _:=A0
 have Hhnn:Hid _:=hnn
 have HWNA:Hid _:=WNA
 have HWIN:Hid _:=WIN
 have HWIF:Hid _:=WIF
 have HAT1:Hid _:=AT1
 have Hhb1:Hid _:=hb1
 have HAT2:Hid _:=AT2
 have HSM2:Hid _:=SM2
 have Hhx1:Hid _:=hx1
 have Hhx2:Hid _:=hx2
 have HMH:Hid _:=MH
 have Hheh:Hid _:=heh
 have HAT3:Hid _:=AT3
 have HSM3:Hid _:=SM3
 have Hp3a:Hid _:=p3a
 have Hp3b:Hid _:=p3b
 have HEX1:Hid _:=EX1
 have HHX:Hid _:=HX
 have HMD:Hid _:=MD
 have Hhed:Hid _:=hed
 have HAT4:Hid _:=AT4
 have HSM4:Hid _:=SM4
 have Hhp4:Hid _:=hp4
 have HEX2:Hid _:=EX2
 have Hhn:Hid _:=hn
 have HDE:Hid _:=DE
 have HL1:Hid _:=L1
 have HL2:Hid _:=L2
 have HL3:Hid _:=L3
 have HL4:Hid _:=L4
 have HL5:Hid _:=L5
 have HL6:Hid _:=L6
 have HQ0:Hid (QW w ((w.alloc (.cells aC 43)).alloc (.cells (aB3 neg 0) 43)) neg 0):=QW.start w neg
 unfold aC aB3 at HQ0
 have i01:i=0 \/ i=1:=by rcases hi with h | h | h <;> omega
 clear hpl hi A0 hnn WNA WIN WIF AT1 hb1 AT2 SM2 hx1 hx2 MH heh AT3 SM3 p3a p3b EX1 HX MD hed AT4 SM4 hp4 EX2 hn DE L1 L2 L3 L4 L5 L6
 go_enter Tryz.func29,Tryz.ntmps29
 go_wp2_with fail
 refine (HA0.out _).mono ?_
 rintro o wx ⟨rfl,rfl⟩
 go_upto_region 3 with fail
 go_cut [33] (fun sv wx=>sv=.bool (decide (i=1))/\QW w wx neg 0)
 case first =>
  rcases Hhi.out with ⟨rfl,rfl⟩ | ⟨rfl,rfl,rfl⟩ | ⟨rfl,rfl,rfl⟩
  . clear hneg
    go_wp2
    go_meet
    exact ⟨rfl,HQ0.out⟩
  . have hp:=Hhpl.out
    go_wp2_with fail
    refine (HA0.out _).mono ?_
    rintro o wx ⟨rfl,rfl⟩
    go_wp2
    go_meet
    exact ⟨rfl,HQ0.out⟩
  . have hp:=Hhpl.out
    go_wp2_with fail
    refine (HA0.out _).mono ?_
    rintro o wx ⟨rfl,rfl⟩
    go_wp2
    go_meet
    exact ⟨rfl,HQ0.out⟩
 case rest =>
 obtain ⟨rfl,hq⟩:=hcut
 have HQ1:Hid (QW w wc neg 0):=hq
 clear hq hneg HQ0
 go_upto_if 33 with fail
 go_cut [6] (fun iv wx=>iv=vI (i:Int)/\wx=wc)
 case first =>
  rcases i01 with rfl | rfl
  . go_wp2
    go_meet
    exact ⟨rfl,rfl⟩
  . go_wp2
    go_meet
    exact ⟨rfl,rfl⟩
 case rest =>
 obtain ⟨rfl,hw⟩:=hcut
 subst hw
 have ib:i<=1:=by omega
 go_upto_region 5 with fail
 go_cut [34] (fun nv wx=>nv=.bool nn/\QW w wx neg 0)
 case first =>
  rcases i01 with rfl | rfl
  . have W0:=HWNA.out (by trivial)
    go_wp2_with fail
    refine (W0 _).mono ?_
    rintro o w2 ⟨rfl,hb⟩
    have HQ2:Hid (QW w w2 neg 0):=HQ1.out.step hb
    clear hb
    go_wp2
    go_meet
    exact ⟨rfl,HQ2.out⟩
  . go_wp2
    go_meet
    exact ⟨by rw [Hhnn.out (by trivial)],HQ1.out⟩
 case rest =>
 obtain ⟨rfl,hq⟩:=hcut
 clear HQ1
 have HQwc:Hid (QW w wc neg 0):=hq
 clear hq
 cases nn
 rotate_left
 . skip
   obtain ⟨⟨sz,pf,fr⟩,⟨p0,p1,p2,p3',p4',p5,p6,p7⟩,r0,r1,r2,r3,r4,r5,r6,r7⟩:=HQwc.out.all
   go_wp2
   refine bodyPost_ret (v:=.tuple #[agP false 4 ⟨#[]⟩ 0 false 0 0 false,vI 3,vI 0]) (by simp [results,Tryz.results29,go_sem,agP, *]) rfl ⟨congrArg Ending.returned (HL1.out (by trivial)).symm,?_⟩
   iterate 8 (refine Below.setCell ?_ oF _)
   exact HQwc.out.bel
 go_wp2_with fail
 refine (HWIN.out _).mono ?_
 rintro o w3 ⟨rfl,hb⟩
 have HQ3:Hid (QW w w3 neg 0):=HQwc.out.step hb
 clear hb
 cases wi
 rotate_left
 . skip
   obtain ⟨⟨sz,pf,fr⟩,⟨p0,p1,p2,p3',p4',p5,p6,p7⟩,r0,r1,r2,r3,r4,r5,r6,r7⟩:=HQ3.out.all
   go_wp2
   refine bodyPost_ret (v:=.tuple #[agP neg 3 ⟨#[]⟩ 0 false 0 0 false,vI ((i:Int)+8),vI 0]) (by simp [results,Tryz.results29,go_sem,agP, *]) rfl ⟨congrArg Ending.returned (HL2.out (by trivial) (by trivial)).symm,?_⟩
   iterate 8 (refine Below.setCell ?_ oF _)
   refine Below.setCell ?_ bC _
   exact HQ3.out.bel
 go_wp2_with fail
 refine (HWIF.out _).mono ?_
 rintro o w4 ⟨rfl,hb⟩
 have HQ4:Hid (QW w w4 neg 0):=HQ3.out.step hb
 clear hb
 cases wf
 rotate_left
 . skip
   obtain ⟨⟨sz,pf,fr⟩,⟨p0,p1,p2,p3',p4',p5,p6,p7⟩,r0,r1,r2,r3,r4,r5,r6,r7⟩:=HQ4.out.all
   go_wp2
   refine bodyPost_ret (v:=.tuple #[agP neg 3 ⟨#[]⟩ 0 false 0 0 false,vI ((i:Int)+3),vI 0]) (by simp [results,Tryz.results29,go_sem,agP, *]) rfl ⟨congrArg Ending.returned (HL3.out (by trivial) (by trivial) (by trivial)).symm,?_⟩
   iterate 8 (refine Below.setCell ?_ oF _)
   refine Below.setCell ?_ bC _
   exact HQ4.out.bel
 clear HQwc HQ3
 go_upto_region 13 with fail
 go_cut [69] (fun xv wx=>xv=.bool hx/\QW w wx neg 0)
 case first =>
  have hb:=Hhb1.out
  cases b1
  . skip
    go_wp2_with fail
    refine (HAT1.out _).mono ?_
    rintro o wx ⟨rfl,rfl⟩
    go_wp2
    go_meet
    exact ⟨by rw [Hhx1.out (by trivial)],HQ4.out⟩
  . have hy:=Hhx2.out (by trivial)
    go_wp2_with fail
    refine (HAT1.out _).mono ?_
    rintro o wx ⟨rfl,rfl⟩
    go_wp2_with fail
    refine (HAT2.out _).mono ?_
    rintro o wx ⟨rfl,rfl⟩
    go_wp2_with fail
    refine (HSM2.out _).mono ?_
    rintro o wx ⟨rfl,rfl⟩
    go_wp2
    go_meet
    exact ⟨rfl,HQ4.out⟩
 case rest =>
 obtain ⟨rfl,hq⟩:=hcut
 clear HQ4
 have HQ5:Hid (QW w wc neg 0):=hq
 clear hq
 go_upto_if 69 with fail
 go_cut [] (fun wx=>QW w wx neg 0/\(hx=true -> okh=true -> p3=true -> ok1=false))
 case first =>
  cases hx
  . go_wp2
    go_meet
    exact ⟨HQ5.out,fun h=>by cases h⟩
  . have M0:=HMH.out (by trivial)
    go_wp2_with fail
    refine (M0 _).mono ?_
    rintro o w6 ⟨rfl,hb⟩
    have HQ6:Hid (QW w w6 neg 0):=HQ5.out.step hb
    clear hb
    clear M0 HQ5
    go_upto_region 15 with fail
    go_cut [86] (fun pv wx=>pv=.bool p3/\QW w wx neg 0)
    case first =>
     cases okh
     . go_wp2
       go_meet
       exact ⟨by rw [Hp3a.out (by trivial)],HQ6.out⟩
     . have hy:=Hp3b.out (by trivial)
       have A3:=HAT3.out (by trivial) (by trivial)
       go_wp2_with fail
       refine (A3 _).mono ?_
       rintro o wx ⟨rfl,rfl⟩
       go_wp2_with fail
       refine (HSM3.out _).mono ?_
       rintro o wx ⟨rfl,rfl⟩
       go_wp2
       go_meet
       exact ⟨rfl,HQ6.out⟩
    case rest =>
    obtain ⟨rfl,hq⟩:=hcut
    clear HQ6
    have HQ7:Hid (QW w wc neg 0):=hq
    clear hq
    cases p3
    . go_wp2
      go_meet
      exact ⟨HQ7.out,fun _ _ h=>by cases h⟩
    have ok:okh=true:=by
     cases okh
     . have:=Hp3a.out (by trivial)
       cases this
     . rfl
    subst ok
    have he:=Hheh.out (by trivial) (by trivial)
    obtain ⟨he0,he9⟩:=he
    have E0:=HEX1.out (by trivial) (by trivial) (by trivial)
    go_wp2_with fail
    refine (E0 _).mono ?_
    rintro o w8 ⟨rfl,hb⟩
    have HQ8:Hid (QW w w8 neg 0):=HQ7.out.step hb
    clear hb
    clear E0
    cases ok1
    . go_wp2
      go_meet
      exact ⟨HQ8.out,fun _ _ _=>by trivial⟩
    have X0:=HHX.out (by trivial) (by trivial) (by trivial) (by trivial)
    go_wp2_with fail
    refine (X0 _).mono ?_
    rintro o w9 ⟨rfl,hb⟩
    have HQ9:Hid (QW w w9 neg 0):=HQ8.out.step hb
    clear hb
    clear X0
    obtain ⟨⟨sz,pf,fr⟩,⟨p0,p1,p2,p3',p4',p5,p6,p7⟩,r0,r1,r2,r3,r4,r5,r6,r7⟩:=HQ9.out.all
    have sz0:w.heap.size<w9.heap.size:=by omega
    go_wp2
    refine bodyPost_ret (v:=.tuple #[agP neg v1 v2 v3 v4 v5 v6 v7,vI e1,vI 0]) (by simp [results,Tryz.results29,go_sem,agP, *]) rfl ⟨congrArg Ending.returned (HL4.out (by trivial) (by trivial) (by trivial) (by trivial) (by trivial) (by trivial) (by trivial)).symm,?_⟩
    refine Below.alloc ?_ (by simp;omega) _
    iterate 8 (refine Below.setCell ?_ oF _)
    exact HQ9.out.bel
 case rest =>
 obtain ⟨hq,nox⟩:=hcut
 have HNX:Hid (hx=true -> okh=true -> p3=true -> ok1=false):=nox
 clear HQ5 nox
 have HQ10:Hid (QW w wc neg 0):=hq
 clear hq
 go_wp2_with fail
 refine (HMD.out _).mono ?_
 rintro o w11 ⟨rfl,hb⟩
 have HQ11:Hid (QW w w11 neg 0):=HQ10.out.step hb
 clear hb
 clear HQ10
 cases okd
 . skip
   obtain ⟨⟨sz,pf,fr⟩,⟨p0,p1,p2,p3',p4',p5,p6,p7⟩,r0,r1,r2,r3,r4,r5,r6,r7⟩:=HQ11.out.all
   go_wp2
   refine bodyPost_ret (v:=.tuple #[agP false 0 ⟨#[]⟩ 0 false 0 0 false,vI 0,vI 3]) (by simp [results,Tryz.results29,go_sem,agP, *]) rfl ⟨congrArg Ending.returned (HL5.out (by trivial) (by trivial) (by trivial) HNX.out (by trivial)).symm,?_⟩
   iterate 8 (refine Below.setCell ?_ oF _)
   exact HQ11.out.bel
 have A4:=HAT4.out (by trivial)
 have hd:=Hhed.out (by trivial)
 obtain ⟨hd0,hd9⟩:=hd
 go_wp2_with fail
 refine (A4 _).mono ?_
 rintro o wx ⟨rfl,rfl⟩
 go_wp2_with fail
 refine (HSM4.out _).mono ?_
 rintro o wx ⟨rfl,rfl⟩
 clear A4
 have hp:=Hhp4.out
 go_upto_if 120 with fail
 go_cut [17,19] (fun ev nv wx=>ev=vI en/\nv=vI n2/\QW w wx neg 0)
 case first =>
  rcases Hhn.out with ⟨rfl,rfl,rfl⟩ | ⟨rfl,rfl,rfl,rfl⟩ | ⟨rfl,rfl,rfl,rfl⟩
  . go_wp2
    go_meet
    exact ⟨rfl,rfl,HQ11.out⟩
  . have E0:=HEX2.out (by trivial) (by trivial)
    go_wp2_with fail
    refine (E0 _).mono ?_
    rintro o w12 ⟨rfl,hb⟩
    have HQ12:Hid (QW w w12 neg 0):=HQ11.out.step hb
    clear hb
    go_wp2
    go_meet
    exact ⟨rfl,rfl,HQ12.out⟩
  . have E0:=HEX2.out (by trivial) (by trivial)
    go_wp2_with fail
    refine (E0 _).mono ?_
    rintro o w12 ⟨rfl,hb⟩
    have HQ12:Hid (QW w w12 neg 0):=HQ11.out.step hb
    clear hb
    go_wp2
    go_meet
    exact ⟨rfl,rfl,HQ12.out⟩
 case rest =>
 obtain ⟨rfl,rfl,hq⟩:=hcut
 clear HQ11 hp
 have HQ13:Hid (QW w wc neg 0):=hq
 clear hq
 have D0:=HDE.out (by trivial)
 obtain ⟨⟨sz,pf,fr⟩,⟨p0,p1,p2,p3',p4',p5,p6,p7⟩,r0,r1,r2,r3,r4,r5,r6,r7⟩:=HQ13.out.all
 go_wp2_with fail
 refine (D0 _).mono ?_
 rintro o w14 ⟨rfl,hb⟩
 have HQ14:Hid (QW w w14 neg 1):=(HQ13.out.kind 1).step hb
 clear hb D0
 clear sz pf fr p0 p1 p2 p3' p4' p5 p6 p7 r0 r1 r2 r3 r4 r5 r6 r7
 obtain ⟨⟨sz,pf,fr⟩,⟨p0,p1,p2,p3',p4',p5,p6,p7⟩,r0,r1,r2,r3,r4,r5,r6,r7⟩:=HQ14.out.all
 go_wp2
 refine bodyPost_ret (v:=.tuple #[agP neg 1 dd dp dc 0 0 false,vI en,vI 0]) (by simp [results,Tryz.results29,go_sem,agP, *]) rfl ⟨congrArg Ending.returned (HL6.out (by trivial) (by trivial) (by trivial) HNX.out (by trivial)).symm,?_⟩
 iterate 8 (refine Below.setCell ?_ oF _)
 iterate 3 (refine Below.setCell ?_ bC _)
 exact HQ14.out.bel
end Go.Proofs.YtejgpbhionadbaaGreatDoor
