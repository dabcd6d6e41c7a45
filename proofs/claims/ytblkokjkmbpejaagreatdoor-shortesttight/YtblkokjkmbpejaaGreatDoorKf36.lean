/-
  Holds: SoWb.
-/
import Derived.Test.YtblkokjkmbpejaaGreatDoorRows
import Derived.Laws.Externs
import Derived.WalkKit
import Derived.WalkSpells
import Derived.WalkLawsBesides
import Derived.Lib.Mul64
import Derived.Stop.Asserts
import Derived.RowKitTokens
import Derived.Lib.Strings
import Derived.Lib.BufferWrite
import Derived.Deep.OwnRows
import Derived.Deep.RegionHeld3
import Derived.BigQuiet
import Derived.Lib.ConvBytes
import Derived.Laws.CopyOwn
import Derived.Lib.TrailingZeros
import Derived.Lib.ItoaNum
import Derived.Deep.LoopGhost
import Derived.Deep.AppendLies
import Derived.Deep.DeepCutAuto
import Derived.Test.YtblkokjkmbpejaaGreatDoorKf35
set_option maxRecDepth 100000
set_option maxHeartbeats 4000000
namespace Go.Proofs.YtblkokjkmbpejaaGreatDoor
open Go.RowKit
theorem aBh {u:ByteArray}(h:u ≠ ⟨#[49]⟩):(u.toList == [49])=false:=by
 apply beq_eq_false_iff_ne.mpr
 intro q
 apply h
 rw [hH] at q
 exact ByteArray.ext (Array.toList_inj.1 q)
theorem aEi:((⟨#[49]⟩:ByteArray).toList == [49])=true:=by
 rw [hH]
 rfl
theorem aAk {o:Int}(ho:-1099511627776<=o) (ho2:o<=1099511627776) (w:World) :
 Cb 24 #[.agg #[.string ⟨#[49]⟩,vI o,.bool false],vI 1,.bool false] w (.agg #[.string ⟨#[57]⟩,vI (o - 1),.bool false]):=by
 have wo:IntKind.i64.wrap (o - 1)=o - 1:=by
  unfold IntKind.wrap
  simp [IntKind.bits,IntKind.signed]
  omega
 have F0:Hid (Bk ((w.alloc (.cells #[.string ⟨#[49]⟩,vI o,.bool false] 24)).alloc (.cells #[.string ⟨#[]⟩,vI 0,.bool false] 24)) (w.heap.size) [.string ⟨#[49]⟩,vI o,.bool false]/\Bk ((w.alloc (.cells #[.string ⟨#[49]⟩,vI o,.bool false] 24)).alloc (.cells #[.string ⟨#[]⟩,vI 0,.bool false] 24)) (w.heap.size+1) [.string ⟨#[]⟩,vI 0,.bool false]/\Bl w ((w.alloc (.cells #[.string ⟨#[49]⟩,vI o,.bool false] 24)).alloc (.cells #[.string ⟨#[]⟩,vI 0,.bool false] 24))):=⟨(Bk.new3 w (.string ⟨#[49]⟩) (vI o) (.bool false) 24).step (bz _ _),((by have q:=Bk.new3 (w.alloc (.cells #[.string ⟨#[49]⟩,vI o,.bool false] 24)) (.string ⟨#[]⟩) (vI 0) (.bool false) 24;simpa using q):Bk ((w.alloc (.cells #[.string ⟨#[49]⟩,vI o,.bool false] 24)).alloc (.cells #[.string ⟨#[]⟩,vI 0,.bool false] 24)) (w.heap.size+1) [.string ⟨#[]⟩,vI 0,.bool false]),(((Below.refl w.heap.size w)).alloc (Nat.le_refl _) _).alloc ((((Below.refl w.heap.size w)).alloc (Nat.le_refl _) _).size) _⟩
 go_enter Tryz.func24,Tryz.ntmps24
 go_upto_region 1 with fail
 generalize ((w.alloc (.cells #[.string ⟨#[49]⟩,vI o,.bool false] 24)).alloc (.cells #[.string ⟨#[]⟩,vI 0,.bool false] 24))=w1 at *
 have l1_0:=F0.out.1.lt
 have a1_0_0:=F0.out.1.cell 0 _ rfl
 have f1_0_0:=F0.out.1.fz 0
 have a1_0_1:=F0.out.1.cell 1 _ rfl
 have f1_0_1:=F0.out.1.fz 1
 have a1_0_2:=F0.out.1.cell 2 _ rfl
 have f1_0_2:=F0.out.1.fz 2
 have l1_1:=F0.out.2.1.lt
 have a1_1_0:=F0.out.2.1.cell 0 _ rfl
 have f1_1_0:=F0.out.2.1.fz 0
 have a1_1_1:=F0.out.2.1.cell 1 _ rfl
 have f1_1_1:=F0.out.2.1.fz 1
 have a1_1_2:=F0.out.2.1.cell 2 _ rfl
 have f1_1_2:=F0.out.2.1.fz 2
 have ne1_0_1:¬ w.heap.size=w.heap.size+1:=by omega
 have ne1_1_0:¬ w.heap.size+1=w.heap.size:=by omega
 go_wp2
 refine bodyPost_ret (v:=.agg #[.string ⟨#[57]⟩,vI (o - 1),.bool false]) (by simp [results,Tryz.results24,go_sem,World.cell?_setCell_same,World.cell?_setCell_other, *]) rfl ⟨rfl,?_⟩
 repeat (first | refine Below.setCell ?_ (by first | exact Nat.le_refl _ | (dsimp only;omega)) _ | refine Below.alloc ?_ (by first | exact Nat.le_refl _ | omega | (simp;omega)) _ | refine Below.drew ?_)
 exact F0.out.2.2
theorem aBW {u e1:ByteArray}{o e2:Int}{n k:Nat}(hs:u.size=n) (n0:0<n) (n8:n<=800) (hd:DG u) (ho:-1099511627776<=o) (ho2:o<=1099511627776) (kn:k<=n) (h9:∀ i,k<=i -> i<n -> dgt u i=57) (hk:0<k -> dgt u (k - 1) ≠ 57) (M2:∀ v:ByteArray,v.size=n+1 -> (∀ i,i<n+1 -> dgt v i=dZ u k i) -> ∀ W,Cb 46 #[.string v,vI (o+1),.bool false] W (.tuple #[.agg #[.string e1,vI e2,.bool false],vI 0])) (w:World) :
 Cb 24 #[.agg #[.string u,vI o,.bool false],vI (n:Int),.bool true] w (.agg #[.string e1,vI e2,.bool false]):=by
 have ni:((n:Int)).toNat=n:=by omega
 have HP:Hid ((∀ i,k<=i -> i<n -> dgt u i=57)/\(0<k -> dgt u (k - 1) ≠ 57)/\k<=n/\DG u/\n<=800):=⟨h9,hk,kn,hd,n8⟩
 have HM2:Hid (∀ v:ByteArray,v.size=n+1 -> (∀ i,i<n+1 -> dgt v i=dZ u k i) -> ∀ W,Cb 46 #[.string v,vI (o+1),.bool false] W (.tuple #[.agg #[.string e1,vI e2,.bool false],vI 0])):=M2
 clear h9 hk kn hd M2
 have F0:Hid (Bk ((w.alloc (.cells #[.string u,vI o,.bool false] 24)).alloc (.cells #[.string ⟨#[]⟩,vI 0,.bool false] 24)) (w.heap.size) [.string u,vI o,.bool false]/\Bk ((w.alloc (.cells #[.string u,vI o,.bool false] 24)).alloc (.cells #[.string ⟨#[]⟩,vI 0,.bool false] 24)) (w.heap.size+1) [.string ⟨#[]⟩,vI 0,.bool false]/\Bl w ((w.alloc (.cells #[.string u,vI o,.bool false] 24)).alloc (.cells #[.string ⟨#[]⟩,vI 0,.bool false] 24))):=⟨(Bk.new3 w (.string u) (vI o) (.bool false) 24).step (bz _ _),((by have q:=Bk.new3 (w.alloc (.cells #[.string u,vI o,.bool false] 24)) (.string ⟨#[]⟩) (vI 0) (.bool false) 24;simpa using q):Bk ((w.alloc (.cells #[.string u,vI o,.bool false] 24)).alloc (.cells #[.string ⟨#[]⟩,vI 0,.bool false] 24)) (w.heap.size+1) [.string ⟨#[]⟩,vI 0,.bool false]),(((Below.refl w.heap.size w)).alloc (Nat.le_refl _) _).alloc ((((Below.refl w.heap.size w)).alloc (Nat.le_refl _) _).size) _⟩
 go_enter Tryz.func24,Tryz.ntmps24
 go_upto_region 1 with fail
 generalize ((w.alloc (.cells #[.string u,vI o,.bool false] 24)).alloc (.cells #[.string ⟨#[]⟩,vI 0,.bool false] 24))=w1 at *
 have l1_0:=F0.out.1.lt
 have a1_0_0:=F0.out.1.cell 0 _ rfl
 have f1_0_0:=F0.out.1.fz 0
 have a1_0_1:=F0.out.1.cell 1 _ rfl
 have f1_0_1:=F0.out.1.fz 1
 have a1_0_2:=F0.out.1.cell 2 _ rfl
 have f1_0_2:=F0.out.1.fz 2
 have l1_1:=F0.out.2.1.lt
 have a1_1_0:=F0.out.2.1.cell 0 _ rfl
 have f1_1_0:=F0.out.2.1.fz 0
 have a1_1_1:=F0.out.2.1.cell 1 _ rfl
 have f1_1_1:=F0.out.2.1.fz 1
 have a1_1_2:=F0.out.2.1.cell 2 _ rfl
 have f1_1_2:=F0.out.2.1.fz 2
 have ne1_0_1:¬ w.heap.size=w.heap.size+1:=by omega
 have ne1_1_0:¬ w.heap.size+1=w.heap.size:=by omega
 go_cut [21] from 11 to 20 (fun v21 wx=>v21=.bool false/\Hid (Bk wx (w.heap.size) [.string u,vI o,.bool false]/\Bk wx (w.heap.size+1) [.string ⟨#[]⟩,vI 0,.bool false]/\Bl w wx))
 case first =>
  by_cases c1:n=1
  . subst c1
    by_cases c4:u=⟨#[49]⟩
    . have c5:(u.toList == [49])=true:=by rw [c4];exact aEi
      clear c4
      go_wp2
      all_goals go_meet
      all_goals exact ⟨by simp,F0.out⟩
    . have c5:=aBh c4
      clear c4
      go_wp2
      all_goals go_meet
      all_goals exact ⟨by simp,F0.out⟩
  . have c2:((n:Int) == 1)=false:=beq_eq_false_iff_ne.mpr (by omega)
    have c3:¬ (n:Int)=1:=by omega
    go_wp2
    all_goals go_meet
    all_goals exact ⟨by simp,F0.out⟩
 case rest =>
 obtain ⟨rfl,HC⟩:=hcut
 clear F0
 clear l1_0 a1_0_0 f1_0_0 a1_0_1 f1_0_1 a1_0_2 f1_0_2 l1_1 a1_1_0 f1_1_0 a1_1_1 f1_1_1 a1_1_2 f1_1_2
 have F50:Hid (Bk wc (w.heap.size) [.string u,vI o,.bool false]/\Bk wc (w.heap.size+1) [.string ⟨#[]⟩,vI 0,.bool false]/\Bl w wc):=HC
 clear HC
 have l6_0:=F50.out.1.lt
 have a6_0_0:=F50.out.1.cell 0 _ rfl
 have f6_0_0:=F50.out.1.fz 0
 have a6_0_1:=F50.out.1.cell 1 _ rfl
 have f6_0_1:=F50.out.1.fz 1
 have a6_0_2:=F50.out.1.cell 2 _ rfl
 have f6_0_2:=F50.out.1.fz 2
 have l6_1:=F50.out.2.1.lt
 have a6_1_0:=F50.out.2.1.cell 0 _ rfl
 have f6_1_0:=F50.out.2.1.fz 0
 have a6_1_1:=F50.out.2.1.cell 1 _ rfl
 have f6_1_1:=F50.out.2.1.fz 1
 have a6_1_2:=F50.out.2.1.cell 2 _ rfl
 have f6_1_2:=F50.out.2.1.fz 2
 have ne6_0_1:¬ w.heap.size=w.heap.size+1:=by omega
 have ne6_1_0:¬ w.heap.size+1=w.heap.size:=by omega
 go_upto_region 3 with fail
 obtain ⟨t,ht⟩:∃ t,t=(⟨#[48]⟩ ++ u:ByteArray):=⟨_,rfl⟩
 obtain ⟨ts,td⟩:=bS ht
 obtain ⟨W1,C,hcv,hC1,hC2,hbW,R0⟩:=mZ wc t (by omega)
 rw [ts,hs] at hcv hC1 R0
 have HT:Hid (∀ i,i<n+1 -> dgt t i=aP u i):=fun i _=>td i
 rw [ht] at hcv
 have su:¬ 9223372036854775807<1+u.size:=by omega
 have su2:¬ 9223372036854775807<u.size+1:=by omega
 clear td ht ts
 go_wp2_with fail
 have lk0:=(F50.out.1).lt
 have lk1:=(F50.out.2.1).lt
 have lw:=(F50.out.2.2).size
 have IB:Hid (Bk W1 (w.heap.size) [.string u,vI o,.bool false]/\Bk W1 (w.heap.size+1) [.string ⟨#[]⟩,vI 0,.bool false]/\BR W1 (wc.heap.size) (n+1) (dgt t)/\Bl w W1):=⟨(F50.out.1).step hbW,(F50.out.2.1).step hbW,R0,(F50.out.2.2).trans (hbW.mono (F50.out.2.2).size)⟩
 clear l6_0 a6_0_0 f6_0_0 a6_0_1 f6_0_1 a6_0_2 f6_0_2 l6_1 a6_1_0 f6_1_0 a6_1_1 f6_1_1 a6_1_2 f6_1_2 F50 R0 hbW hcv
 go_loopw [8] (fun iv wr=>∃ (j:Nat) (F:Nat -> Nat),iv=vI (j:Int)/\k<=j/\j<=n/\Hid (Bk wr (w.heap.size) [.string u,vI o,.bool false]/\Bk wr (w.heap.size+1) [.string ⟨#[]⟩,vI 0,.bool false]/\BR wr (wc.heap.size) (n+1) F/\Bl w wr)/\Hid ((∀ i,i<=j -> F i=aP u i)/\(∀ i,j<i -> i<n+1 -> F i=48))) (fun iv _=>(intOf iv).toNat)
 case atStart=>exact ⟨n,dgt t,rfl,HP.out.2.2.1,Nat.le_refl _,IB.out,fun i hi=>HT.out i (by omega),fun i a b=>absurd a (by omega)⟩
 case round =>
  obtain ⟨j,F,rfl,hkj,hjn,HB,HF⟩:=hrel
  clear IB
  have ix:((j:Int)).toNat=j:=by omega
  have hg:=HB.out.2.2.1.lt
  by_cases c1:k<j
  . have e9:F j=57:=by
     rw [HF.out.1 j (Nat.le_refl _)]
     unfold aP
     rw [if_neg (by omega)]
     exact HP.out.1 (j - 1) (by omega) (by omega)
    have hc:=HB.out.2.2.1.row.cell j (by omega)
    have hf:=HB.out.2.2.1.row.fr j (by omega)
    rw [e9] at hc
    clear e9
    go_wp2
    go_roundw
    case rel =>
     refine ⟨j - 1,aJ F j 48,by go_num,by omega,by omega,⟨(HB.out.1).setC (by omega) _ _,(HB.out.2.1).setC (by omega) _ _,(HB.out.2.2.1).set (by omega) 48,(HB.out.2.2.2).setCell (by show w.heap.size<=wc.heap.size;omega) _⟩,fun i hi=>?_,fun i a b=>?_⟩
     . unfold aJ
       rw [if_neg (by omega)]
       exact HF.out.1 i (by omega)
     . unfold aJ
       by_cases z:i=j
       . rw [if_pos z]
       . rw [if_neg z];exact HF.out.2 i (by omega) b
    case measure=>simp [intOf];omega
  . obtain rfl:j=k:=by omega
    obtain ⟨y,hy⟩:∃ y,y=aP u j:=⟨_,rfl⟩
    have ey:F j=y:=(HF.out.1 j (Nat.le_refl _)).trans hy.symm
    have hc:=HB.out.2.2.1.row.cell j (by omega)
    have hf:=HB.out.2.2.1.row.fr j (by omega)
    rw [ey] at hc
    have y9:y<57:=by
     rw [hy]
     unfold aP
     by_cases z:j=0
     . rw [if_pos z];omega
     . rw [if_neg z]
       have:=HP.out.2.1 (by omega)
       have:=aF HP.out.2.2.2.1 (j - 1)
       omega
    have HYY:Hid (y=aP u j):=hy
    have e9:((y:Int) == 57)=false:=beq_eq_false_iff_ne.mpr (by omega)
    obtain ⟨y1,hy1⟩:∃ y1,y1=y+1:=⟨_,rfl⟩
    have HY1:Hid (y1=y+1):=hy1
    have wx:IntKind.u8.wrap ((y:Int)+1)=(y1:Int):=by
     rw [hy1]
     unfold IntKind.wrap
     simp [IntKind.bits,IntKind.signed]
     omega
    clear hy ey hy1
    have RB:=(HB.out.2.2.1).set (i:=j) (by omega) y1
    obtain ⟨v,vs,vd,vc⟩:=jW (C:=C) RB (fun i hi=>by
     unfold aJ
     split
     . have:=HY1.out;omega
     . rcases Nat.lt_or_ge i j with q | q
       . rw [HF.out.1 i (by omega)]
         unfold aP
         split
         . omega
         . have:=aF HP.out.2.2.2.1 (i - 1);omega
       . rw [HF.out.2 i (by omega) hi];omega)
    have vcv:=vc _ (fun i _=>rfl)
    have HV:Hid (∀ i,i<n+1 -> dgt v i=dZ u j i):=fun i hi=>by
     rw [vd i hi]
     unfold aJ dZ
     by_cases z:i=j
     . rw [if_pos z,if_neg (by omega),if_pos z,HY1.out,HYY.out]
     . rw [if_neg z]
       by_cases q:i<j
       . rw [if_pos q];exact HF.out.1 i (by omega)
       . rw [if_neg q,if_neg z];exact HF.out.2 i (by omega) hi
    have MM:=HM2.out v vs HV.out
    have wo:IntKind.i64.wrap (o+1)=o+1:=by
     unfold IntKind.wrap
     simp [IntKind.bits,IntKind.signed]
     omega
    have F70:Hid (Bk (wr.setCell ⟨wc.heap.size,j,none⟩ (.int .u8 (y1:Int))) (w.heap.size) [.string u,vI o,.bool false]/\Bk (wr.setCell ⟨wc.heap.size,j,none⟩ (.int .u8 (y1:Int))) (w.heap.size+1) [.string ⟨#[]⟩,vI 0,.bool false]/\Bl w (wr.setCell ⟨wc.heap.size,j,none⟩ (.int .u8 (y1:Int)))):=⟨(HB.out.1).setC (by omega) _ _,(HB.out.2.1).setC (by omega) _ _,(HB.out.2.2.2).setCell (by show w.heap.size<=wc.heap.size;omega) _⟩
    clear RB vc vd
    go_upto_region 14 with fail
    generalize (wr.setCell ⟨wc.heap.size,j,none⟩ (.int .u8 (y1:Int)))=w71 at *
    have hco:=(F70.out.1).cell 1 _ rfl
    go_wp2_with fail
    all_goals first | (exfalso;omega) | skip
    refine (MM _).mono ?_
    rintro o72 w72 ⟨rfl,bb⟩
    have F71:Hid (Bk w72 (w.heap.size) [.string u,vI o,.bool false]/\Bk w72 (w.heap.size+1) [.string ⟨#[]⟩,vI 0,.bool false]/\Bl w w72):=⟨(F70.out.1).step bb,(F70.out.2.1).step bb,(F70.out.2.2).trans (bb.mono (F70.out.2.2).size)⟩
    clear F70
    clear bb
    clear hco vcv
    have lt0_2:=(F71.out.1).lt
    have lt1_2:=(F71.out.2.1).lt
    have le2:=(F71.out.2.2).size
    have F72:Hid (Bk (w72.alloc (.cells #[.string e1,vI e2,.bool false] 24)) (w.heap.size) [.string u,vI o,.bool false]/\Bk (w72.alloc (.cells #[.string e1,vI e2,.bool false] 24)) (w.heap.size+1) [.string ⟨#[]⟩,vI 0,.bool false]/\Bk (w72.alloc (.cells #[.string e1,vI e2,.bool false] 24)) (w72.heap.size) [.string e1,vI e2,.bool false]/\Bl w (w72.alloc (.cells #[.string e1,vI e2,.bool false] 24))):=⟨(F71.out.1).step (bz _ _),(F71.out.2.1).step (bz _ _),Bk.new3 w72 (.string e1) (vI e2) (.bool false) 24,(F71.out.2.2).alloc ((F71.out.2.2).size) _⟩
    clear F71
    go_upto_region 15 with fail
    generalize (w72.alloc (.cells #[.string e1,vI e2,.bool false] 24))=w73 at *
    have l31_0:=F72.out.1.lt
    have a31_0_0:=F72.out.1.cell 0 _ rfl
    have f31_0_0:=F72.out.1.fz 0
    have a31_0_1:=F72.out.1.cell 1 _ rfl
    have f31_0_1:=F72.out.1.fz 1
    have a31_0_2:=F72.out.1.cell 2 _ rfl
    have f31_0_2:=F72.out.1.fz 2
    have l31_1:=F72.out.2.1.lt
    have a31_1_0:=F72.out.2.1.cell 0 _ rfl
    have f31_1_0:=F72.out.2.1.fz 0
    have a31_1_1:=F72.out.2.1.cell 1 _ rfl
    have f31_1_1:=F72.out.2.1.fz 1
    have a31_1_2:=F72.out.2.1.cell 2 _ rfl
    have f31_1_2:=F72.out.2.1.fz 2
    have l31_2:=F72.out.2.2.1.lt
    have a31_2_0:=F72.out.2.2.1.cell 0 _ rfl
    have f31_2_0:=F72.out.2.2.1.fz 0
    have a31_2_1:=F72.out.2.2.1.cell 1 _ rfl
    have f31_2_1:=F72.out.2.2.1.fz 1
    have a31_2_2:=F72.out.2.2.1.cell 2 _ rfl
    have f31_2_2:=F72.out.2.2.1.fz 2
    have ne31_0_1:¬ w.heap.size=w.heap.size+1:=by omega
    have ne31_0_2:¬ w.heap.size=w72.heap.size:=by omega
    have ne31_1_0:¬ w.heap.size+1=w.heap.size:=by omega
    have ne31_1_2:¬ w.heap.size+1=w72.heap.size:=by omega
    have ne31_2_0:¬ w72.heap.size=w.heap.size:=by omega
    have ne31_2_1:¬ w72.heap.size=w.heap.size+1:=by omega
    go_wp2
    refine bodyPost_ret (v:=.agg #[.string e1,vI e2,.bool false]) (by simp [results,Tryz.results24,go_sem,World.cell?_setCell_same,World.cell?_setCell_other, *]) rfl ⟨rfl,?_⟩
    repeat (first | refine Below.setCell ?_ (by first | exact Nat.le_refl _ | (dsimp only;omega)) _ | refine Below.alloc ?_ (by first | exact Nat.le_refl _ | omega | (simp;omega)) _ | refine Below.drew ?_)
    exact F72.out.2.2.2
theorem aBV {u e1:ByteArray}{o e2:Int}{n:Nat}(hs:u.size=n) (n0:0<n) (n8:n<=800) (hd:DG u) (ho:-1099511627776<=o) (ho2:o<=1099511627776) (hb:¬ (n=1/\u=⟨#[49]⟩)) (hl:dgt u (n - 1) ≠ 48) (M2:∀ v:ByteArray,v.size=n+1 -> (∀ i,i<n -> dgt v i=aP u i) -> dgt v n=dgt u (n - 1) - 1 -> ∀ W,Cb 46 #[.string v,vI (o+1),.bool false] W (.tuple #[.agg #[.string e1,vI e2,.bool false],vI 0])) (w:World) :
 Cb 24 #[.agg #[.string u,vI o,.bool false],vI (n:Int),.bool false] w (.agg #[.string e1,vI e2,.bool false]):=by
 have ni:((n:Int)).toNat=n:=by omega
 have HP:Hid (DG u/\dgt u (n - 1) ≠ 48):=⟨hd,hl⟩
 have HM2:Hid (∀ v:ByteArray,v.size=n+1 -> (∀ i,i<n -> dgt v i=aP u i) -> dgt v n=dgt u (n - 1) - 1 -> ∀ W,Cb 46 #[.string v,vI (o+1),.bool false] W (.tuple #[.agg #[.string e1,vI e2,.bool false],vI 0])):=M2
 clear hd hl M2
 have F0:Hid (Bk ((w.alloc (.cells #[.string u,vI o,.bool false] 24)).alloc (.cells #[.string ⟨#[]⟩,vI 0,.bool false] 24)) (w.heap.size) [.string u,vI o,.bool false]/\Bk ((w.alloc (.cells #[.string u,vI o,.bool false] 24)).alloc (.cells #[.string ⟨#[]⟩,vI 0,.bool false] 24)) (w.heap.size+1) [.string ⟨#[]⟩,vI 0,.bool false]/\Bl w ((w.alloc (.cells #[.string u,vI o,.bool false] 24)).alloc (.cells #[.string ⟨#[]⟩,vI 0,.bool false] 24))):=⟨(Bk.new3 w (.string u) (vI o) (.bool false) 24).step (bz _ _),((by have q:=Bk.new3 (w.alloc (.cells #[.string u,vI o,.bool false] 24)) (.string ⟨#[]⟩) (vI 0) (.bool false) 24;simpa using q):Bk ((w.alloc (.cells #[.string u,vI o,.bool false] 24)).alloc (.cells #[.string ⟨#[]⟩,vI 0,.bool false] 24)) (w.heap.size+1) [.string ⟨#[]⟩,vI 0,.bool false]),(((Below.refl w.heap.size w)).alloc (Nat.le_refl _) _).alloc ((((Below.refl w.heap.size w)).alloc (Nat.le_refl _) _).size) _⟩
 go_enter Tryz.func24,Tryz.ntmps24
 go_upto_region 1 with fail
 generalize ((w.alloc (.cells #[.string u,vI o,.bool false] 24)).alloc (.cells #[.string ⟨#[]⟩,vI 0,.bool false] 24))=w1 at *
 have l1_0:=F0.out.1.lt
 have a1_0_0:=F0.out.1.cell 0 _ rfl
 have f1_0_0:=F0.out.1.fz 0
 have a1_0_1:=F0.out.1.cell 1 _ rfl
 have f1_0_1:=F0.out.1.fz 1
 have a1_0_2:=F0.out.1.cell 2 _ rfl
 have f1_0_2:=F0.out.1.fz 2
 have l1_1:=F0.out.2.1.lt
 have a1_1_0:=F0.out.2.1.cell 0 _ rfl
 have f1_1_0:=F0.out.2.1.fz 0
 have a1_1_1:=F0.out.2.1.cell 1 _ rfl
 have f1_1_1:=F0.out.2.1.fz 1
 have a1_1_2:=F0.out.2.1.cell 2 _ rfl
 have f1_1_2:=F0.out.2.1.fz 2
 have ne1_0_1:¬ w.heap.size=w.heap.size+1:=by omega
 have ne1_1_0:¬ w.heap.size+1=w.heap.size:=by omega
 go_cut [21] from 11 to 20 (fun v21 wx=>v21=.bool false/\Hid (Bk wx (w.heap.size) [.string u,vI o,.bool false]/\Bk wx (w.heap.size+1) [.string ⟨#[]⟩,vI 0,.bool false]/\Bl w wx))
 case first =>
  by_cases c1:n=1
  . subst c1
    have c5:=aBh (fun q=>hb ⟨rfl,q⟩)
    go_wp2
    all_goals go_meet
    all_goals exact ⟨by simp,F0.out⟩
  . have c2:((n:Int) == 1)=false:=beq_eq_false_iff_ne.mpr (by omega)
    have c3:¬ (n:Int)=1:=by omega
    go_wp2
    all_goals go_meet
    all_goals exact ⟨by simp,F0.out⟩
 case rest =>
 obtain ⟨rfl,HC⟩:=hcut
 clear F0
 clear l1_0 a1_0_0 f1_0_0 a1_0_1 f1_0_1 a1_0_2 f1_0_2 l1_1 a1_1_0 f1_1_0 a1_1_1 f1_1_1 a1_1_2 f1_1_2
 have F50:Hid (Bk wc (w.heap.size) [.string u,vI o,.bool false]/\Bk wc (w.heap.size+1) [.string ⟨#[]⟩,vI 0,.bool false]/\Bl w wc):=HC
 clear HC
 have l6_0:=F50.out.1.lt
 have a6_0_0:=F50.out.1.cell 0 _ rfl
 have f6_0_0:=F50.out.1.fz 0
 have a6_0_1:=F50.out.1.cell 1 _ rfl
 have f6_0_1:=F50.out.1.fz 1
 have a6_0_2:=F50.out.1.cell 2 _ rfl
 have f6_0_2:=F50.out.1.fz 2
 have l6_1:=F50.out.2.1.lt
 have a6_1_0:=F50.out.2.1.cell 0 _ rfl
 have f6_1_0:=F50.out.2.1.fz 0
 have a6_1_1:=F50.out.2.1.cell 1 _ rfl
 have f6_1_1:=F50.out.2.1.fz 1
 have a6_1_2:=F50.out.2.1.cell 2 _ rfl
 have f6_1_2:=F50.out.2.1.fz 2
 have ne6_0_1:¬ w.heap.size=w.heap.size+1:=by omega
 have ne6_1_0:¬ w.heap.size+1=w.heap.size:=by omega
 go_upto_region 3 with fail
 obtain ⟨t,ht⟩:∃ t,t=(⟨#[48]⟩ ++ u:ByteArray):=⟨_,rfl⟩
 obtain ⟨ts,td⟩:=bS ht
 obtain ⟨W1,C,hcv,hC1,hC2,hbW,R0⟩:=mZ wc t (by omega)
 rw [ts,hs] at hcv hC1 R0
 have HT:Hid (∀ i,i<n+1 -> dgt t i=aP u i):=fun i _=>td i
 rw [ht] at hcv
 have su:¬ 9223372036854775807<1+u.size:=by omega
 have su2:¬ 9223372036854775807<u.size+1:=by omega
 clear td ht ts
 skip
 have lk0:=(F50.out.1).lt
 have lk1:=(F50.out.2.1).lt
 have lw:=(F50.out.2.2).size
 have IB:Hid (Bk W1 (w.heap.size) [.string u,vI o,.bool false]/\Bk W1 (w.heap.size+1) [.string ⟨#[]⟩,vI 0,.bool false]/\BR W1 (wc.heap.size) (n+1) (dgt t)/\Bl w W1):=⟨(F50.out.1).step hbW,(F50.out.2.1).step hbW,R0,(F50.out.2.2).trans (hbW.mono (F50.out.2.2).size)⟩
 have hR:=IB.out.2.2.1
 have hg:=hR.lt
 obtain ⟨y,hy⟩:∃ y,y=dgt u (n - 1):=⟨_,rfl⟩
 have y1:49<=y/\y<=57:=by
  have:=aF HP.out.1 (n - 1)
  have:=HP.out.2
  omega
 have hc:=hR.row.cell n (by omega)
 have hf:=hR.row.fr n (by omega)
 have ez:dgt t n=y:=by
  rw [HT.out n (by omega)]
  unfold aP
  rw [if_neg (by omega)]
  exact hy.symm
 rw [ez] at hc
 have e9:((y:Int) == 48)=false:=beq_eq_false_iff_ne.mpr (by omega)
 have e9':¬ (y:Int)=48:=by omega
 have wx:IntKind.u8.wrap ((y:Int) - 1)=((y - 1:Nat):Int):=by
  unfold IntKind.wrap
  simp [IntKind.bits,IntKind.signed]
  omega
 have RB:=hR.set (i:=n) (by omega) (y - 1)
 obtain ⟨v,vs,vd,vc⟩:=jW (C:=C) RB (fun i hi=>by
  unfold aJ
  split
  . omega
  . rw [HT.out i hi]
    unfold aP
    split
    . omega
    . have:=aF HP.out.1 (i - 1);omega)
 have vcv:=vc _ (fun i _=>rfl)
 have MM:=HM2.out v vs (fun i hi=>by
  rw [vd i (by omega)]
  unfold aJ
  rw [if_neg (by omega)]
  exact HT.out i (by omega)) (by
  rw [vd n (by omega)]
  unfold aJ
  rw [if_pos rfl,hy])
 have wo:IntKind.i64.wrap (o+1)=o+1:=by
  unfold IntKind.wrap
  simp [IntKind.bits,IntKind.signed]
  omega
 have F70:Hid (Bk (W1.setCell ⟨wc.heap.size,n,none⟩ (.int .u8 ((y - 1:Nat):Int))) (w.heap.size) [.string u,vI o,.bool false]/\Bk (W1.setCell ⟨wc.heap.size,n,none⟩ (.int .u8 ((y - 1:Nat):Int))) (w.heap.size+1) [.string ⟨#[]⟩,vI 0,.bool false]/\Bl w (W1.setCell ⟨wc.heap.size,n,none⟩ (.int .u8 ((y - 1:Nat):Int)))):=⟨(IB.out.1).setC (by omega) _ _,(IB.out.2.1).setC (by omega) _ _,(IB.out.2.2.2).setCell (by show w.heap.size<=wc.heap.size;omega) _⟩
 clear RB vc vd hy ez R0 hbW IB hR F50
 go_wp2
 go_loopw [8] (fun iv wr=>iv=vI (n:Int)/\wr=W1) (fun _ _=>0)
 case atStart=>exact ⟨rfl,rfl⟩
 case round =>
 obtain ⟨rfl,rfl⟩:=hrel
 go_upto_region 14 with fail
 generalize (wr.setCell ⟨wc.heap.size,n,none⟩ (.int .u8 ((y - 1:Nat):Int)))=w71 at *
 have hco:=(F70.out.1).cell 1 _ rfl
 go_wp2_with fail
 all_goals first | (exfalso;omega) | skip
 refine (MM _).mono ?_
 rintro o72 w72 ⟨rfl,bb⟩
 have F71:Hid (Bk w72 (w.heap.size) [.string u,vI o,.bool false]/\Bk w72 (w.heap.size+1) [.string ⟨#[]⟩,vI 0,.bool false]/\Bl w w72):=⟨(F70.out.1).step bb,(F70.out.2.1).step bb,(F70.out.2.2).trans (bb.mono (F70.out.2.2).size)⟩
 clear F70
 clear bb
 clear hco vcv
 have lt0_2:=(F71.out.1).lt
 have lt1_2:=(F71.out.2.1).lt
 have le2:=(F71.out.2.2).size
 have F72:Hid (Bk (w72.alloc (.cells #[.string e1,vI e2,.bool false] 24)) (w.heap.size) [.string u,vI o,.bool false]/\Bk (w72.alloc (.cells #[.string e1,vI e2,.bool false] 24)) (w.heap.size+1) [.string ⟨#[]⟩,vI 0,.bool false]/\Bk (w72.alloc (.cells #[.string e1,vI e2,.bool false] 24)) (w72.heap.size) [.string e1,vI e2,.bool false]/\Bl w (w72.alloc (.cells #[.string e1,vI e2,.bool false] 24))):=⟨(F71.out.1).step (bz _ _),(F71.out.2.1).step (bz _ _),Bk.new3 w72 (.string e1) (vI e2) (.bool false) 24,(F71.out.2.2).alloc ((F71.out.2.2).size) _⟩
 clear F71
 go_upto_region 15 with fail
 generalize (w72.alloc (.cells #[.string e1,vI e2,.bool false] 24))=w73 at *
 have l31_0:=F72.out.1.lt
 have a31_0_0:=F72.out.1.cell 0 _ rfl
 have f31_0_0:=F72.out.1.fz 0
 have a31_0_1:=F72.out.1.cell 1 _ rfl
 have f31_0_1:=F72.out.1.fz 1
 have a31_0_2:=F72.out.1.cell 2 _ rfl
 have f31_0_2:=F72.out.1.fz 2
 have l31_1:=F72.out.2.1.lt
 have a31_1_0:=F72.out.2.1.cell 0 _ rfl
 have f31_1_0:=F72.out.2.1.fz 0
 have a31_1_1:=F72.out.2.1.cell 1 _ rfl
 have f31_1_1:=F72.out.2.1.fz 1
 have a31_1_2:=F72.out.2.1.cell 2 _ rfl
 have f31_1_2:=F72.out.2.1.fz 2
 have l31_2:=F72.out.2.2.1.lt
 have a31_2_0:=F72.out.2.2.1.cell 0 _ rfl
 have f31_2_0:=F72.out.2.2.1.fz 0
 have a31_2_1:=F72.out.2.2.1.cell 1 _ rfl
 have f31_2_1:=F72.out.2.2.1.fz 1
 have a31_2_2:=F72.out.2.2.1.cell 2 _ rfl
 have f31_2_2:=F72.out.2.2.1.fz 2
 have ne31_0_1:¬ w.heap.size=w.heap.size+1:=by omega
 have ne31_0_2:¬ w.heap.size=w72.heap.size:=by omega
 have ne31_1_0:¬ w.heap.size+1=w.heap.size:=by omega
 have ne31_1_2:¬ w.heap.size+1=w72.heap.size:=by omega
 have ne31_2_0:¬ w72.heap.size=w.heap.size:=by omega
 have ne31_2_1:¬ w72.heap.size=w.heap.size+1:=by omega
 go_wp2
 refine bodyPost_ret (v:=.agg #[.string e1,vI e2,.bool false]) (by simp [results,Tryz.results24,go_sem,World.cell?_setCell_same,World.cell?_setCell_other, *]) rfl ⟨rfl,?_⟩
 repeat (first | refine Below.setCell ?_ (by first | exact Nat.le_refl _ | (dsimp only;omega)) _ | refine Below.alloc ?_ (by first | exact Nat.le_refl _ | omega | (simp;omega)) _ | refine Below.drew ?_)
 exact F72.out.2.2.2
end Go.Proofs.YtblkokjkmbpejaaGreatDoor
