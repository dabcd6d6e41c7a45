/-
  Holds: UPgA UPgC UPpB UPpC UPpD UHxA.
-/
import Derived.Test.YtejgpbhionadbaaGreatDoorRows
import Derived.Laws.Externs
import Derived.WalkKit
import Derived.WalkSpells
import Derived.WalkLawsBesides
import Derived.Lib.Mul64
import Derived.Lib.TrailingZeros
import Derived.Lib.ItoaNum
import Derived.Deep.OwnRows
import Derived.Laws.CopyOwn
import Derived.BigQuiet
import Derived.Deep.RegionHeld3
import Derived.Deep.LoopGhost
import Derived.Deep.AppendLies
import Derived.Deep.DeepCutAuto
import Derived.Stop.Asserts
import Derived.RowKitTokens
import Derived.Lib.Strings
import Derived.Lib.BufferWrite
import Derived.Lib.ConvBytes
import Derived.Test.YtejgpbhionadbaaGreatDoorXl17
import Derived.Test.YtejgpbhionadbaaGreatDoorXl18
set_option maxRecDepth 100000
set_option maxHeartbeats 4000000
namespace Go.Proofs.YtejgpbhionadbaaGreatDoor
open Go.RowKit
theorem aCX (n a b:Int) (h1:a<=n) (h2:n<=b) (w:World):Cs 146 #[vI n,vI a,vI b] w (.bool true):=by
 go_enter Tryz.func146,Tryz.ntmps146
 go_wp2
 go_ret
 exact ⟨rfl,rfl⟩
def pwV (M:Nat) (E:Int) (X:Bool):Value:=.agg #[vU (hiW M),vU (loW M),vI E,.bool X]
theorem aHP (n:Nat) (hn:n<=400) (w:World) (hT:Tab w) :
 Calls Tryz.prog 148 #[vI (n:Int)] w fun e w'=>∃ M E,e=.returned (pwV M E (decide ((0:Int)<=n/\(n:Int)<=55)))/\Pw (n:Int) M E/\Bl w w':=by
 obtain ⟨ov,ho⟩:∃ ov,ov=bl (5 ^ n) - 128:=⟨_,rfl⟩
 obtain ⟨top,ht⟩:∃ top,top=5 ^ n / 2 ^ ov:=⟨_,rfl⟩
 obtain ⟨room,hr⟩:∃ room,room=128 - bl top:=⟨_,rfl⟩
 obtain ⟨t0,t1,t2,m2,pw,ex⟩:=aHQ ho ht hr
 have hld:=aBs t0 t1
 obtain ⟨M,hM⟩:∃ M,M=top * 2 ^ room:=⟨_,rfl⟩
 rw [<- hM] at m2 pw
 have hsh:=aFo hM m2 (ldz (hiW top) (loW top)) (by rw [hld,hr];omega)
 have hl:=aBo (n:=n)
 have PF:=fun W=>aEY n hn W
 obtain ⟨X,hX⟩:∃ X,X=5 ^ n:=⟨_,rfl⟩
 obtain ⟨L,hL⟩:∃ L,L=bl X:=⟨_,rfl⟩
 rw [<- hX] at ht ex
 rw [<- hX,<- hL] at ho hl
 simp only [<- hX,<- hL] at PF
 have HM:Hid (Pw (n:Int) M ((n:Int)+ov - room)/\(X % 2 ^ ov=0 ↔ ((0:Int)<=n/\(n:Int)<=55))/\shl (val (hiW top) (loW top)) (ldz (hiW top) (loW top))=M/\top<2 ^ 128/\top=X / 2 ^ ov):=⟨pw,ex,hsh,t1,ht⟩
 have hroom:ldz (hiW top) (loW top)=(room:Int):=by rw [hld,hr];omega
 have HR:Hid (ldz (hiW top) (loW top)=(room:Int)):=hroom
 have hr2:room<=128:=by omega
 have w1:aD (hiW top):=dB t1
 have w2:aD (loW top):=dY top
 clear t0 t1 t2 m2 pw ex hld hM hsh ht hr hX hL hroom
 have HO:Hid (ov=L - 128):=ho
 have hov:ov<=2000:=by omega
 clear ho
 have hT0:Tab (w.alloc (.cells #[vU 0,vU 0,vI 0,.bool false] 193)):=hT.next (bz _ _)
 obtain ⟨CB,hCB⟩:∃ CB,CB=decide (X % 2 ^ ov ≠ 0):=⟨_,rfl⟩
 have HC:Hid (CB=decide (X % 2 ^ ov ≠ 0)):=hCB
 clear hCB
 go_enter Tryz.func148,Tryz.ntmps148
 go_wp2_with fail
 refine (PF _).mono ?_
 rintro e wa ⟨va,rfl,na,ba⟩
 have F1:Hid (FlB wa w.heap.size _ _ _ _):=(FlB.new w (vU 0) (vU 0) (vI 0) (.bool false) 193).step ba
 have B1:Hid (Bl w wa):=(bz _ _).trans (ba.mono (by simp))
 have SH:=aLC (hT0.next ba) na ov (by omega)
 rw [<- HC.out,<- HM.out.2.2.2.2] at SH
 clear ba na PF hT0 hT
 go_upto_region 2 with fail
 go_cut [5] (fun s wx=>wx=wa/\s=vI (ov:Int))
 case first =>
  by_cases c:128<(L:Int)
  . have e:(L:Int) - 128=(ov:Int):=by have:=HO.out;omega
    go_wp2
    all_goals first | (exfalso;omega) | skip
    go_meet
    exact ⟨rfl,rfl⟩
  . go_wp2
    all_goals first | (exfalso;omega) | skip
    go_meet
    exact ⟨rfl,by have:=HO.out;rw [show ov=0 by omega];rfl⟩
 case rest =>
 obtain ⟨hcw,rfl⟩:=hcut
 subst hcw
 go_wp2_with fail
 refine SH.mono ?_
 rintro e wb ⟨vb,rfl,nb,bb⟩
 have F2:Hid (FlB wb w.heap.size _ _ _ _):=F1.out.step bb
 have B2:Hid (Bl w wb):=B1.out.trans (bb.mono B1.out.size)
 have NM:=uL nb HM.out.2.2.2.1
 clear SH F1 B1 nb bb
 go_wp2_with fail
 refine NM.mono ?_
 rintro e wd ⟨rfl,bd⟩
 have F3:Hid (FlB wd w.heap.size _ _ _ _):=F2.out.step bd
 have B3:Hid (Bl w wd):=B2.out.trans (bd.mono B2.out.size)
 clear NM F2 B2 bd
 have Q3:Hid (TwB (wd.alloc (.cells #[vU (hiW top),vU (loW top)] 191)) wd.heap.size _ _):=TwB.new wd _ _ _
 have LD:=fun W=>nM (hiW top) (loW top) w1 w2 W
 simp only [HR.out] at LD
 have LF:=fun W=>nO (hiW top) (loW top) (room:Int) w1 w2 W
 have hsh:=HM.out.2.2.1
 rw [HR.out] at hsh
 simp only [hsh] at LF
 clear hsh w1 w2
 generalize hiW top=h at *
 generalize loW top=l at *
 have HX:Hid ((!CB)=decide ((0:Int)<=n/\(n:Int)<=55)):=by
  show _=_
  rw [HC.out]
  by_cases z:X % 2 ^ ov=0
  . rw [decide_eq_false (by simpa using z),decide_eq_true (HM.out.2.1.1 z)];rfl
  . rw [decide_eq_true z,decide_eq_false (fun q=>z (HM.out.2.1.2 q))];rfl
 generalize hEX:decide ((0:Int)<=n/\(n:Int)<=55)=EX at *
 have l3:w.heap.size<wd.heap.size:=F3.out.lt
 go_wp2_with fail
 refine (LD _).mono ?_
 rintro e we ⟨rfl,be⟩
 have F4:Hid (FlB we w.heap.size _ _ _ _):=(F3.out.al _).step be
 have Q4:Hid (TwB we wd.heap.size _ _):=Q3.out.step be
 have B4:Hid (Bl w we):=(B3.out.alloc B3.out.size _).trans (be.mono (by have:=B3.out.size;simp;omega))
 clear be F3 Q3 B3 LD
 obtain ⟨_,q0,q1,_,_⟩:=Q4.out
 go_wp2_with fail
 refine (LF _).mono ?_
 rintro e wf ⟨rfl,bf⟩
 have F5:Hid (FlB wf w.heap.size _ _ _ _):=F4.out.step bf
 have B5:Hid (Bl w wf):=B4.out.trans (bf.mono B4.out.size)
 clear bf F4 Q4 B4 LF q0 q1
 obtain ⟨_,a0,a1,a2,a3,f0,f1,f2,f3⟩:=F5.out
 have HP:Hid (Pw (n:Int) M ((n:Int)+ov - room)):=HM.out.1
 clear HM HR
 go_wp2
 refine bodyPost_ret (v:=.agg #[vU (hiW M),vU (loW M),vI ((n:Int)+ov - room),.bool (!CB)]) (by simp [results,Tryz.results148,go_sem,World.cell?_setCell_same,World.cell?_setCell_other,a0,a1,a2,a3]) rfl ⟨M,(n:Int)+ov - room,by rw [hEX,<- HX.out];rfl,HP.out,(((B5.out.setCell (Nat.le_refl _) _).setCell (Nat.le_refl _) _).setCell (Nat.le_refl _) _).setCell (Nat.le_refl _) _⟩
theorem aLH {s K:Nat}(h:s<64 * K):1 * 2 ^ s<B ^ K:=by
 rw [Nat.one_mul,cM]
 exact Nat.pow_lt_pow_right (by omega) h
theorem zQ (n:Nat) (n0:0<n) (hn:n<=400) (w:World) (hT:Tab w) :
 Calls Tryz.prog 147 #[vI (n:Int)] w fun e w'=>∃ M E,e=.returned (pwV M E false)/\Pw (-(n:Int)) M E/\Bl w w':=by
 obtain ⟨sh,hs⟩:∃ sh,sh=127+bl (5 ^ n):=⟨_,rfl⟩
 obtain ⟨m2,pw⟩:=aAS n0 hs
 have hl:=aBo (n:=n)
 have PF:=fun W=>aEY n hn W
 have x0:5 ^ n ≠ 0:=Nat.ne_of_gt (Nat.pow_pos (by omega))
 obtain ⟨X,hX⟩:∃ X,X=5 ^ n:=⟨_,rfl⟩
 obtain ⟨L,hL⟩:∃ L,L=bl X:=⟨_,rfl⟩
 rw [<- hX,<- hL] at hs hl
 rw [<- hX] at x0 m2 pw
 simp only [<- hX,<- hL] at PF
 have hs3:sh<64 * 128:=by omega
 have O1:=fun W=>jR 1 (by decide) W
 have SL:=fun (W:World) (v:Value) (h:NatV W v 1)=>eW h sh (aLH hs3) (by omega)
 simp only [Nat.one_mul] at SL
 have HS:Hid (X ≠ 0/\2 ^ sh / X<2 ^ 128/\Pw (-(n:Int)) (2 ^ sh / X) (-(n:Int) - sh)):=⟨x0,m2,pw⟩
 have HL:Hid (127+(L:Int)=(sh:Int)):=(by omega:127+(L:Int)=(sh:Int))
 have hl2:L<=1300:=by omega
 have hT0:Tab (w.alloc (.cells #[vU 0,vU 0,vI 0,.bool false] 193)):=hT.next (bz _ _)
 have hsh2:=HL.out
 clear hs hX hL x0 m2 pw hl
 go_enter Tryz.func147,Tryz.ntmps147
 go_wp2_with fail
 refine (PF _).mono ?_
 rintro e wa ⟨va,rfl,na,ba⟩
 have F1:Hid (FlB wa w.heap.size _ _ _ _):=(FlB.new w (vU 0) (vU 0) (vI 0) (.bool false) 193).step ba
 have B1:Hid (Bl w wa):=(bz _ _).trans (ba.mono (by simp))
 have T1:Hid (Tab wa/\NatV wa va X):=⟨hT0.next ba,na⟩
 clear ba na PF hT0 hT
 go_wp2_with fail
 refine (O1 _).mono ?_
 rintro e wb ⟨vb,rfl,nb,bb⟩
 have F2:Hid (FlB wb w.heap.size _ _ _ _):=F1.out.step bb
 have B2:Hid (Bl w wb):=B1.out.trans (bb.mono B1.out.size)
 have T2:Hid (Tab wb/\NatV wb va X):=⟨T1.out.1.next bb,T1.out.2.below bb⟩
 have S2:=SL wb vb nb
 clear SL O1 F1 B1 T1 nb bb
 go_wp2_with fail
 refine S2.mono ?_
 rintro e wc ⟨vc,rfl,nc,bc⟩
 have F3:Hid (FlB wc w.heap.size _ _ _ _):=F2.out.step bc
 have B3:Hid (Bl w wc):=B2.out.trans (bc.mono B2.out.size)
 have DV:=aDD (T2.out.1.next bc) nc (T2.out.2.below bc) HS.out.1
 clear S2 F2 B2 T2 nc bc
 go_wp2_with fail
 refine DV.mono ?_
 rintro e wd ⟨v1,v2,rfl,n1,n2,bd⟩
 have F4:Hid (FlB wd w.heap.size _ _ _ _):=F3.out.step bd
 have B4:Hid (Bl w wd):=B3.out.trans (bd.mono B3.out.size)
 have NM:=uL n1 HS.out.2.1
 have HP:Hid (Pw (-(n:Int)) (2 ^ sh / X) (-(n:Int) - sh)):=HS.out.2.2
 clear DV F3 B3 n1 n2 bd HS
 generalize 2 ^ sh / X=M at *
 go_wp2_with fail
 refine NM.mono ?_
 rintro e we ⟨rfl,be⟩
 have F5:Hid (FlB we w.heap.size _ _ _ _):=F4.out.step be
 have B5:Hid (Bl w we):=B4.out.trans (be.mono B4.out.size)
 clear NM F4 B4 be
 obtain ⟨_,a0,a1,a2,a3,f0,f1,f2,f3⟩:=F5.out
 go_wp2
 refine bodyPost_ret (v:=.agg #[vU (hiW M),vU (loW M),vI (-(n:Int) - sh),.bool false]) (by simp [results,Tryz.results147,go_sem,World.cell?_setCell_same,World.cell?_setCell_other,a0,a1,a2,a3]) rfl ⟨M,-(n:Int) - sh,rfl,HP.out,(((B5.out.setCell (Nat.le_refl _) _).setCell (Nat.le_refl _) _).setCell (Nat.le_refl _) _).setCell (Nat.le_refl _) _⟩
theorem aLh (x:Int) (h1:-400<=x) (h2:x<=400) (w:World) (hT:Tab w) :
 Calls Tryz.prog 111 #[vI x] w fun e w'=>∃ M E,e=.returned (.tuple #[pwV M E (decide (0<=x/\x<=55)),.nilIface])/\Pw x M E/\Bl w w':=by
 have W:=fun y=>aCX x (-400) 400 h1 h2 y
 have hT0:Tab (w.alloc (.cells #[vU 0,vU 0,vI 0,.bool false] 193)):=hT.next (bz _ _)
 by_cases c:x<0
 . obtain ⟨n,hn⟩:∃ n:Nat,-x=(n:Int):=⟨(-x).toNat,by omega⟩
   have FR:=zQ n (by omega) (by omega) _ hT0
   rw [show decide (0<=x/\x<=55)=false from decide_eq_false (by omega)]
   have HN:Hid (-(n:Int)=x):=(by omega:-(n:Int)=x)
   rw [HN.out] at FR
   go_enter Tryz.func111,Tryz.ntmps111
   go_wp2_with fail
   refine (W _).mono ?_
   rintro e w1 ⟨rfl,hw1⟩
   subst hw1
   go_wp2_with fail
   refine FR.mono ?_
   rintro e w2 ⟨M,E,rfl,pw,b2⟩
   have F2:Hid (FlB w2 w.heap.size _ _ _ _):=(FlB.new w (vU 0) (vU 0) (vI 0) (.bool false) 193).step b2
   have B2:Hid (Bl w w2):=(bz _ _).trans (b2.mono (by simp))
   have HP:Hid (Pw x M E):=pw
   clear pw b2 FR W hT hT0
   obtain ⟨_,a0,a1,a2,a3,f0,f1,f2,f3⟩:=F2.out
   unfold pwV
   go_wp2
   refine bodyPost_ret (v:=.tuple #[.agg #[vU (hiW M),vU (loW M),vI E,.bool false],.nilIface]) (by simp [results,Tryz.results111,go_sem,World.cell?_setCell_same,World.cell?_setCell_other,a0,a1,a2,a3]) rfl ⟨M,E,rfl,HP.out,(((B2.out.setCell (Nat.le_refl _) _).setCell (Nat.le_refl _) _).setCell (Nat.le_refl _) _).setCell (Nat.le_refl _) _⟩
 . obtain ⟨n,hn⟩:∃ n:Nat,x=(n:Int):=⟨x.toNat,by omega⟩
   subst hn
   have WH:=aHP n (by omega) _ hT0
   obtain ⟨EX,hEX⟩:∃ EX,EX=decide ((0:Int)<=n/\(n:Int)<=55):=⟨_,rfl⟩
   rw [<- hEX] at WH ⊢
   clear hEX
   go_enter Tryz.func111,Tryz.ntmps111
   go_wp2_with fail
   refine (W _).mono ?_
   rintro e w1 ⟨rfl,hw1⟩
   subst hw1
   go_wp2_with fail
   refine WH.mono ?_
   rintro e w2 ⟨M,E,rfl,pw,b2⟩
   have F2:Hid (FlB w2 w.heap.size _ _ _ _):=(FlB.new w (vU 0) (vU 0) (vI 0) (.bool false) 193).step b2
   have B2:Hid (Bl w w2):=(bz _ _).trans (b2.mono (by simp))
   have HP:Hid (Pw (n:Int) M E):=pw
   clear pw b2 WH W hT hT0
   obtain ⟨_,a0,a1,a2,a3,f0,f1,f2,f3⟩:=F2.out
   unfold pwV
   go_wp2
   refine bodyPost_ret (v:=.tuple #[.agg #[vU (hiW M),vU (loW M),vI E,.bool EX],.nilIface]) (by simp [results,Tryz.results111,go_sem,World.cell?_setCell_same,World.cell?_setCell_other,a0,a1,a2,a3]) rfl ⟨M,E,rfl,HP.out,(((B2.out.setCell (Nat.le_refl _) _).setCell (Nat.le_refl _) _).setCell (Nat.le_refl _) _).setCell (Nat.le_refl _) _⟩
theorem pR (ah al bh bl:Int) (h1:aD ah) (h2:aD al) (h3:aD bh) (h4:aD bl) (w:World) :
 Calls Tryz.prog 149 #[.agg #[vU ah,vU al],.agg #[vU bh,vU bl]] w fun e w' =>
  e=.returned (.tuple #[.agg #[vU (sHi ah al bh bl),vU (sLo al bl)],.bool (sOv ah al bh bl)])/\Bl w w':=by
 have k:=aC0 h2 h4 (Int.le_refl 0) (by omega:(0:Int)<=1)
 go_enter Tryz.func149,Tryz.ntmps149
 go_wp2_with (first | simp only [wE al bl 0 h2 h4 (Int.le_refl 0) (by omega:(0:Int)<=1)] | simp only [wE ah bh _ h1 h3 k.1 k.2])
 exact bodyPost_ret (v:=.tuple #[.agg #[vU (sHi ah al bh bl),vU (sLo al bl)],.bool (sOv ah al bh bl)]) (by simp [results,Tryz.results149,go_sem,sHi,sLo,sOv]) rfl ⟨rfl,((bz _ _).alloc (by simp) _).alloc (by simp;omega) _⟩
def lgV (X:Nat):Value:=.agg #[vU (x2 X),vU (x1 X),vU (x0 X)]
theorem fL {M b:Nat}(hM:M<2 ^ 128) (hb:b<18446744073709551616) (w:World):Cb 150 #[.agg #[vU (hiW M),vU (loW M)],vU (b:Int)] w (lgV (M * b)):=by
 have MW:=fun W=>aFR (hiW M) (loW M) (b:Int) (dB hM) (dY M) ⟨by omega,by omega⟩ W
 obtain ⟨e2,e1,e0⟩:=aEA M b
 rw [e2,e1,e0] at MW
 unfold lgV
 generalize x2 (M * b)=a2 at *
 generalize x1 (M * b)=a1 at *
 generalize x0 (M * b)=a0 at *
 generalize hiW M=h at *
 generalize loW M=l at *
 clear e2 e1 e0 hM hb
 go_enter Tryz.func150,Tryz.ntmps150
 go_wp2_with fail
 refine (MW _).mono ?_
 rintro e w1 ⟨rfl,hb⟩
 have B1:Hid (Bl w w1):=((bz _ _).alloc (by simp) _).trans (hb.mono (by simp;omega))
 have G1:Hid (GrB w1 (w.heap.size+1) _ _ _):=(by simpa using GrB.new (w.alloc (.cells #[vU h,vU l] 191)) (vU 0) (vU 0) (vU 0) 197:GrB _ (w.heap.size+1) _ _ _).step hb
 clear hb
 obtain ⟨l1,c0,c1,c2,f0,f1,f2⟩:=G1.out
 go_wp2
 exact bodyPost_ret (v:=.agg #[vU a2,vU a1,vU a0]) (by simp [results,Tryz.results150,go_sem,World.cell?_setCell_same,World.cell?_setCell_other, *]) rfl ⟨rfl,(((B1.out.setCell (Nat.le_succ _) _).setCell (Nat.le_succ _) _).setCell (Nat.le_succ _) _).alloc (by simpa using B1.out.size) _⟩
theorem aBD {X D:Nat}(hD:D<2 ^ 128) (hX:X+D<2 ^ 192) (w:World):Cb 151 #[lgV X,.agg #[vU (hiW D),vU (loW D)]] w (lgV (X+D)):=by
 have AD:=fun W=>pR (x1 X) (x0 X) (hiW D) (loW D) (aJ2 X) (aJ1 X) (dB hD) (dY D) W
 obtain ⟨e1,e0,c0,c1⟩:=aFv hD hX
 have hw:=aJ3 (X:=X) (by omega)
 unfold aD at hw
 rw [e1,e0] at AD
 unfold lgV
 generalize sOv (x1 X) (x0 X) (hiW D) (loW D)=ov at *
 generalize x2 (X+D)=a2 at *
 generalize x1 (X+D)=a1 at *
 generalize x0 (X+D)=a0 at *
 generalize x2 X=b2 at *
 generalize x1 X=b1 at *
 generalize x0 X=b0 at *
 generalize hiW D=h at *
 generalize loW D=l at *
 clear e1 e0 hD hX
 have G0:Hid (GrB (((w.alloc (.cells #[vU b2,vU b1,vU b0] 197)).alloc (.cells #[vU h,vU l] 191)).alloc (.cells #[vU 0,vU 0,vU 0] 197)) w.heap.size _ _ _):=((GrB.new w (vU b2) (vU b1) (vU b0) 197).al _).al _
 have R0:Hid (GrB (((w.alloc (.cells #[vU b2,vU b1,vU b0] 197)).alloc (.cells #[vU h,vU l] 191)).alloc (.cells #[vU 0,vU 0,vU 0] 197)) (w.heap.size+2) (vU 0) (vU 0) (vU 0)):=by
  show GrB _ _ _ _ _
  have q:=GrB.new ((w.alloc (.cells #[vU b2,vU b1,vU b0] 197)).alloc (.cells #[vU h,vU l] 191)) (vU 0) (vU 0) (vU 0) 197
  simpa using q
 have B0:Hid (Bl w (((w.alloc (.cells #[vU b2,vU b1,vU b0] 197)).alloc (.cells #[vU h,vU l] 191)).alloc (.cells #[vU 0,vU 0,vU 0] 197))):=((bz _ _).alloc (by simp) _).alloc (by simp;omega) _
 cases ov
 . obtain rfl:=c0 rfl
   clear c0 c1
   go_enter Tryz.func151,Tryz.ntmps151
   go_wp2_with fail
   refine (AD _).mono ?_
   rintro e w1 ⟨rfl,hb⟩
   have G1:Hid (GrB w1 w.heap.size _ _ _):=G0.out.step hb
   have R1:Hid (GrB w1 (w.heap.size+2) _ _ _):=R0.out.step hb
   have B1:Hid (Bl w w1):=B0.out.trans (hb.mono B0.out.size)
   clear hb G0 R0 B0
   obtain ⟨l1,c0,c1,c2,_,_,_⟩:=G1.out
   obtain ⟨l2,d0,d1,d2,g0,g1,g2⟩:=R1.out
   go_wp2
   exact bodyPost_ret (v:=.agg #[vU b2,vU a1,vU a0]) (by simp [results,Tryz.results151,go_sem,World.cell?_setCell_same,World.cell?_setCell_other, *]) rfl ⟨rfl,(((B1.out.setCell (Nat.le_add_right _ 2) _).setCell (Nat.le_add_right _ 2) _).setCell (Nat.le_add_right _ 2) _).alloc (by simpa using B1.out.size) _⟩
 . obtain ⟨rfl,hl⟩:=c1 rfl
   clear c0 c1
   go_enter Tryz.func151,Tryz.ntmps151
   go_wp2_with fail
   refine (AD _).mono ?_
   rintro e w1 ⟨rfl,hb⟩
   have G1:Hid (GrB w1 w.heap.size _ _ _):=G0.out.step hb
   have R1:Hid (GrB w1 (w.heap.size+2) _ _ _):=R0.out.step hb
   have B1:Hid (Bl w w1):=B0.out.trans (hb.mono B0.out.size)
   clear hb G0 R0 B0
   obtain ⟨l1,c0,c1,c2,f0,_,_⟩:=G1.out
   obtain ⟨l2,d0,d1,d2,g0,g1,g2⟩:=R1.out
   go_wp2
   exact bodyPost_ret (v:=.agg #[vU (b2+1),vU a1,vU a0]) (by simp [results,Tryz.results151,go_sem,World.cell?_setCell_same,World.cell?_setCell_other, *]) rfl ⟨rfl,((((B1.out.setCell (Nat.le_refl _) _).setCell (Nat.le_add_right _ 2) _).setCell (Nat.le_add_right _ 2) _).setCell (Nat.le_add_right _ 2) _).alloc (by simpa using B1.out.size) _⟩
theorem aGM:ldz 0 0=128:=by decide +kernel
theorem aBq {X:Nat}:x2 X=hiW (X / 18446744073709551616)/\x1 X=loW (X / 18446744073709551616):=by
 unfold x2 x1 hiW loW
 rw [Nat.div_div_eq_div_mul]
 exact ⟨rfl,rfl⟩
theorem aEd {a2 a1 a0 h:Int}{ld:Int}(h0:0<=ld) (h1:ld<=128) (w:World)
 (LD:∀ W,Cb 193 #[.agg #[vU a2,vU a1]] W (vI ld))
 (LF:∀ W,Cb 194 #[.agg #[vU a2,vU a1],vI ld] W (.agg #[vU h,vU 0])) :
 Cb 152 #[.agg #[vU a2,vU a1,vU a0]] w (.tuple #[vU h,vI (128 - ld),.bool (a0 != 0)]):=by
 have G0:Hid (GrB ((w.alloc (.cells #[vU a2,vU a1,vU a0] 197)).alloc (.cells #[vU a2,vU a1] 191)) w.heap.size _ _ _):=(GrB.new w (vU a2) (vU a1) (vU a0) 197).al _
 have T0:Hid (TwB ((w.alloc (.cells #[vU a2,vU a1,vU a0] 197)).alloc (.cells #[vU a2,vU a1] 191)) (w.heap.size+1) (vU a2) (vU a1)):=by
  have q:=TwB.new (w.alloc (.cells #[vU a2,vU a1,vU a0] 197)) (vU a2) (vU a1) 191
  show TwB _ _ _ _
  simpa using q
 have B0:Hid (Bl w ((w.alloc (.cells #[vU a2,vU a1,vU a0] 197)).alloc (.cells #[vU a2,vU a1] 191))):=(bz _ _).alloc (by simp) _
 go_enter Tryz.func152,Tryz.ntmps152
 go_wp2_with fail
 refine (LD _).mono ?_
 rintro e w1 ⟨rfl,hb⟩
 have G1:Hid (GrB w1 w.heap.size _ _ _):=G0.out.step hb
 have T1:Hid (TwB w1 (w.heap.size+1) _ _):=T0.out.step hb
 have B1:Hid (Bl w w1):=B0.out.trans (hb.mono B0.out.size)
 clear hb G0 T0 B0
 obtain ⟨_,t0,t1,_,_⟩:=T1.out
 go_wp2_with fail
 refine (LF _).mono ?_
 rintro e w2 ⟨rfl,hb⟩
 have G2:Hid (GrB w2 w.heap.size _ _ _):=G1.out.step hb
 have T2:Hid (TwB w2 (w.heap.size+1) _ _):=T1.out.step hb
 have B2:Hid (Bl w w2):=B1.out.trans (hb.mono B1.out.size)
 clear hb G1 T1 B1 t0 t1
 obtain ⟨l1,c0,c1,c2,f0,_,_⟩:=G2.out
 obtain ⟨l2,t0,t1,g0,g1⟩:=T2.out
 clear LD LF
 go_upto_region 4 with fail
 go_quiet (fail)
 go_wp2
 exact bodyPost_ret (v:=.tuple #[vU h,vI (128 - ld),.bool (a0 != 0)]) (by simp [results,Tryz.results152,go_sem]) rfl ⟨rfl,below_drewN ((B2.out.setCell (Nat.le_succ _) _).setCell (Nat.le_succ _) _) nq⟩
theorem aKY {a2 a1 a0 h l:Int}{ld:Int}(h0:0<=ld) (h1:ld<=128) (hl:(l == 0)=false) (w:World)
 (LD:∀ W,Cb 193 #[.agg #[vU a2,vU a1]] W (vI ld))
 (LF:∀ W,Cb 194 #[.agg #[vU a2,vU a1],vI ld] W (.agg #[vU h,vU l])) :
 Cb 152 #[.agg #[vU a2,vU a1,vU a0]] w (.tuple #[vU h,vI (128 - ld),.bool true]):=by
 have G0:Hid (GrB ((w.alloc (.cells #[vU a2,vU a1,vU a0] 197)).alloc (.cells #[vU a2,vU a1] 191)) w.heap.size _ _ _):=(GrB.new w (vU a2) (vU a1) (vU a0) 197).al _
 have T0:Hid (TwB ((w.alloc (.cells #[vU a2,vU a1,vU a0] 197)).alloc (.cells #[vU a2,vU a1] 191)) (w.heap.size+1) (vU a2) (vU a1)):=by
  have q:=TwB.new (w.alloc (.cells #[vU a2,vU a1,vU a0] 197)) (vU a2) (vU a1) 191
  show TwB _ _ _ _
  simpa using q
 have B0:Hid (Bl w ((w.alloc (.cells #[vU a2,vU a1,vU a0] 197)).alloc (.cells #[vU a2,vU a1] 191))):=(bz _ _).alloc (by simp) _
 have hl2:(l != 0)=true:=by rw [bne,hl];rfl
 go_enter Tryz.func152,Tryz.ntmps152
 go_wp2_with fail
 refine (LD _).mono ?_
 rintro e w1 ⟨rfl,hb⟩
 have G1:Hid (GrB w1 w.heap.size _ _ _):=G0.out.step hb
 have T1:Hid (TwB w1 (w.heap.size+1) _ _):=T0.out.step hb
 have B1:Hid (Bl w w1):=B0.out.trans (hb.mono B0.out.size)
 clear hb G0 T0 B0
 obtain ⟨_,t0,t1,_,_⟩:=T1.out
 go_wp2_with fail
 refine (LF _).mono ?_
 rintro e w2 ⟨rfl,hb⟩
 have G2:Hid (GrB w2 w.heap.size _ _ _):=G1.out.step hb
 have T2:Hid (TwB w2 (w.heap.size+1) _ _):=T1.out.step hb
 have B2:Hid (Bl w w2):=B1.out.trans (hb.mono B1.out.size)
 clear hb G1 T1 B1 t0 t1
 obtain ⟨l1,c0,c1,c2,f0,_,_⟩:=G2.out
 obtain ⟨l2,t0,t1,g0,g1⟩:=T2.out
 clear LD LF
 go_upto_region 4 with fail
 go_quiet (fail)
 go_wp2
 exact bodyPost_ret (v:=.tuple #[vU h,vI (128 - ld),.bool true]) (by simp [results,Tryz.results152,go_sem]) rfl ⟨rfl,below_drewN ((B2.out.setCell (Nat.le_succ _) _).setCell (Nat.le_succ _) _) nq⟩
theorem aIS {X:Nat}(h0:X=0 \/ 2 ^ 127<=X) (h2:X<2 ^ 192) (w:World):Calls Tryz.prog 152 #[lgV X] w fun e w' =>
 ∃ h b r:Nat,e=.returned (.tuple #[vU (h:Int),vI (b:Int),.bool (decide (r ≠ 0))])/\h<2 ^ 64/\b<=128/\X=h * 2 ^ b+r/\r<2 ^ b/\((X=0/\h=0/\r=0) \/ 2 ^ 63<=h)/\Bl w w':=by
 rcases h0 with rfl | h1
 . have LD:=fun W=>nM 0 0 ⟨by decide,by decide⟩ ⟨by decide,by decide⟩ W
   have LF:=fun W=>nO 0 0 128 ⟨by decide,by decide⟩ ⟨by decide,by decide⟩ W
   rw [aGM] at LD
   have e:shl (val 0 0) 128=0:=by decide +kernel
   rw [e] at LF
   refine (aEd (a0:=0) (by decide) (by decide) w LD LF).mono ?_
   rintro e w' ⟨rfl,hb⟩
   exact ⟨0,0,0,rfl,by decide,by decide,by decide,by decide,.inl ⟨rfl,rfl,rfl⟩,hb⟩
 . obtain ⟨U,b,h,r,hU,u0,u2,hb,b3,b4,c0,hh,q1,q2,hX,hr,hz⟩:=aEb h1 h2
   have LD:=fun W=>nM (hiW U) (loW U) (dB u2) (dY U) W
   have LF:=fun W=>nO (hiW U) (loW U) ((128 - b:Nat):Int) (dB u2) (dY U) W
   rw [aBs u0 u2,<- hb,show (128:Int) - (b:Int)=((128 - b:Nat):Int) from by omega] at LD
   rw [aFo rfl c0 _ rfl] at LF
   unfold lgV
   rw [aBq.1,aBq.2,<- hU]
   have eh:hiW (U * 2 ^ (128 - b))=(h:Int):=by unfold hiW;rw [<- hh]
   have eb:(128:Int) - ((128 - b:Nat):Int)=(b:Int):=by omega
   rw [eh] at LF
   by_cases z:loW (U * 2 ^ (128 - b))=0
   . rw [z] at LF
     refine (aEd (a0:=x0 X) (by omega) (by omega) w LD LF).mono ?_
     rintro e w' ⟨rfl,hb'⟩
     refine ⟨h,b,r,?_,q2,b3,hX,hr,.inr q1,hb'⟩
     rw [eb]
     have:(x0 X != 0)=decide (r ≠ 0):=by
      unfold loW at z
      unfold x0
      rw [Bool.eq_iff_iff,bne_iff_ne,decide_eq_true_iff,ne_eq,ne_eq,hz]
      omega
     rw [this]
   . refine (aKY (a0:=x0 X) (by omega) (by omega) (by simpa using z) w LD LF).mono ?_
     rintro e w' ⟨rfl,hb'⟩
     refine ⟨h,b,r,?_,q2,b3,hX,hr,.inr q1,hb'⟩
     rw [eb]
     have:true=decide (r ≠ 0):=by
      unfold loW at z
      rw [eq_comm,decide_eq_true_iff,ne_eq,hz]
      omega
     rw [this]
theorem aCt {f T:Nat}{L E t:Int}{X h b r k:Nat}(hf:0<f) (f6:f<63) (hT:2<=T) (h64:h<2 ^ 64) (hX:X=h * 2 ^ b+r) (hr:r<2 ^ b) (hh:(X=0/\h=0/\r=0) \/ 2 ^ 63<=h)
 (hk:(k:Int)=max (63 - (f:Int)) (L - (E+b))):NrT f T L X 1 E t (pkA f T L (drp h k (if r=0 then t else 1)) (E+b+k)):=by
 rcases hh with ⟨rfl,rfl,rfl⟩ | h63
 . have e:drp 0 k (if (0:Nat)=0 then t else 1)=0:=by
    unfold drp
    split
    . rfl
    . rw [Nat.zero_div,Nat.zero_mod,if_neg]
      have:=Nat.two_pow_pos (k - 1)
      omega
   rw [e]
   unfold pkA
   rw [if_pos rfl]
   exact fZ Nat.one_pos (by omega)
 . obtain ⟨c1,c2⟩:=aEu (T:=T) t hf f6 hT hX hr h63 h64 hk
   unfold pkA
   by_cases z:drp h k (if r=0 then t else 1)=0
   . rw [if_pos z]
     exact c1 z
   . rw [if_neg z]
     obtain ⟨y,hy,hp⟩:=c2 z
     rw [hp]
     by_cases q:y<T * 2 ^ f
     . rw [if_pos q]
       unfold rdE at hy
       rw [if_pos q] at hy
       exact hy
     . rw [if_neg q]
       unfold rdE at hy
       rw [if_neg q] at hy
       exact hy
theorem mP {s:Int}{g n f T:Nat}{L:Int}(hz:Fz s g n f T L) {X:Nat}(h0:X=0 \/ 2 ^ 127<=X) (h2:X<2 ^ 192) {E t:Int}(hE:-5000<=E) (hE2:E<=5000) (ht:t = -1 \/ t=0 \/ t=1) (w:World) (hT:Tab w) :
 Calls Tryz.prog 113 #[.agg #[vI s,vI ((f:Int)+1),vI L],lgV X,vI E,vI t] w fun e w'=>∃ x:Nat,e=.returned (vU (x:Int))/\NrT f T L X 1 E t x/\Bl w w':=by
 have HH:=fun W=>aIS h0 h2 W
 have hf:0<f/\f<=52:=by rcases hz with ⟨_,_,_,h,_⟩ | ⟨_,_,_,h,_⟩ <;> omega
 have hL:-1074<=L/\L<=0:=by rcases hz with ⟨_,_,_,_,_,h⟩ | ⟨_,_,_,_,_,h⟩ <;> omega
 have hT2:2<=T:=by rcases hz with ⟨_,_,_,_,h,_⟩ | ⟨_,_,_,_,h,_⟩ <;> omega
 have HZ:Hid (Fz s g n f T L):=hz
 have HT:Hid (Tab w):=hT
 obtain ⟨V,hV⟩:∃ V,lgV X=V:=⟨_,rfl⟩
 have hV2:V=.agg #[vU (x2 X),vU (x1 X),vU (x0 X)]:=by rw [<- hV];rfl
 rw [hV] at HH ⊢
 subst hV2
 have G0:Hid (GrB ((w.alloc (.cells #[vI s,vI ((f:Int)+1),vI L] 187)).alloc (.cells #[vU (x2 X),vU (x1 X),vU (x0 X)] 197)) w.heap.size _ _ _):=(GrB.new w (vI s) (vI ((f:Int)+1)) (vI L) 187).al _
 have B0:Hid (Bl w ((w.alloc (.cells #[vI s,vI ((f:Int)+1),vI L] 187)).alloc (.cells #[vU (x2 X),vU (x1 X),vU (x0 X)] 197))):=(bz _ _).alloc (by simp) _
 clear hV hz hT h0 h2
 generalize x2 X=a2 at *
 generalize x1 X=a1 at *
 generalize x0 X=a0 at *
 go_enter Tryz.func113,Tryz.ntmps113
 go_wp2_with fail
 refine (HH _).mono ?_
 rintro e w1 ⟨h,b,r,rfl,h64,hb128,hX,hr,hh,hb⟩
 have G1:Hid (GrB w1 w.heap.size _ _ _):=G0.out.step hb
 have B1:Hid (Bl w w1):=B0.out.trans (hb.mono B0.out.size)
 clear hb G0 B0 HH
 obtain ⟨k,hk⟩:∃ k:Nat,(k:Int)=max (63 - (f:Int)) (L - (E+b)):=⟨(max (63 - (f:Int)) (L - (E+b))).toNat,by omega⟩
 have ANS:Hid (NrT f T L X 1 E t (pkA f T L (drp h k (if r=0 then t else 1)) (E+b+k))):=aCt hf.1 (by omega) hT2 h64 hX hr hh hk
 have ht2:(if r=0 then t else 1) = -1 \/ (if r=0 then t else 1)=0 \/ (if r=0 then t else 1)=1:=by split <;> omega
 have HD:=fun W=>aER (m:=h) (D:=k) (by omega) (by omega) ht2 W
 have HP:=fun W hW=>aEZ HZ.out (m:=drp h k (if r=0 then t else 1)) (p:=E+b+k) (aKG _ h64 (by omega)) (by omega) ((f:Int)+1) L W hW
 generalize pkA f T L (drp h k (if r=0 then t else 1)) (E+b+k)=y at *
 generalize drp h k (if r=0 then t else 1)=dd at *
 have e1:IntKind.i64.wrap (E+(b:Int))=E+b:=IntWalk.i64_in _ ⟨by omega,by omega⟩
 have e2:IntKind.i64.wrap (64 - ((f:Int)+1))=63 - (f:Int):=by rw [show 64 - ((f:Int)+1)=63 - (f:Int) from by omega];exact IntWalk.i64_in _ ⟨by omega,by omega⟩
 have e3:IntKind.i64.wrap (L - (E+(b:Int)))=L - (E+b):=IntWalk.i64_in _ ⟨by omega,by omega⟩
 have e4:(if 63 - (f:Int)<L - (E+(b:Int)) then L - (E+(b:Int)) else 63 - (f:Int))=(k:Int):=by rw [hk];split <;> omega
 have e5:IntKind.i64.wrap (E+(b:Int)+(k:Int))=E+b+k:=IntWalk.i64_in _ ⟨by omega,by omega⟩
 have HE:Hid _:=e4
 clear e4 hX hr hh hT2
 obtain ⟨l1,c0,c1,c2,_,_,_⟩:=G1.out
 by_cases r0:r=0
 . have r1:decide (r ≠ 0)=false:=by simpa using r0
   rw [r1]
   rw [if_pos r0] at HD
   clear r1 r0 ht2 hk
   go_upto_region 6 with fail
   rw [e2,e3,HE.out] at *
   have TD:Hid (Tab w1.drew):=HT.out.below B1.out.drew HT.out.pos
   go_region_held3 (fun w'=>w'.cell? ⟨w.heap.size,0,none⟩=some (vI s)/\w'.cell? ⟨w.heap.size,1,none⟩=some (vI ((f:Int)+1))/\w'.cell? ⟨w.heap.size,2,none⟩=some (vI L)) (simp [*,go_sem])
    (first
     | (go_at_call 154;refine (HD _).mono ?_;rintro x1 w2 ⟨rfl,hh⟩;obtain ⟨hc2,hf2⟩:=dG hh;have s2:=hh.size;have k0:=hc2 w.heap.size 0 (by simpa using l1);have k1:=hc2 w.heap.size 1 (by simpa using l1);have k2:=hc2 w.heap.size 2 (by simpa using l1);have T2:Hid (Tab w2):=TD.out.next hh;have B2:Hid (Bl w w2):=B1.out.drew.trans (hh.mono B1.out.drew.size);have l2:w.heap.size<w2.heap.size:=Nat.lt_of_lt_of_le l1 s2)
     | (go_at_call 153;refine (HP _ T2.out).mono ?_;rintro x1 w3 ⟨rfl,hh3⟩;obtain ⟨hc3,hf3⟩:=dG hh3;have j0:=hc3 w.heap.size 0 l2;have j1:=hc3 w.heap.size 1 l2;have j2:=hc3 w.heap.size 2 l2;have B3:Hid (Bl w w3):=B2.out.trans (hh3.mono B2.out.size)))
   all_goals
    go_wp2
    go_ret
    exact ⟨y,rfl,ANS.out,B3.out⟩
 . have r1:decide (r ≠ 0)=true:=by simpa using r0
   rw [r1]
   rw [if_neg r0] at HD
   clear r1 r0 ht2 hk
   go_upto_region 6 with fail
   rw [e2,e3,HE.out] at *
   have TD:Hid (Tab w1.drew):=HT.out.below B1.out.drew HT.out.pos
   go_region_held3 (fun w'=>w'.cell? ⟨w.heap.size,0,none⟩=some (vI s)/\w'.cell? ⟨w.heap.size,1,none⟩=some (vI ((f:Int)+1))/\w'.cell? ⟨w.heap.size,2,none⟩=some (vI L)) (simp [*,go_sem])
    (first
     | (go_at_call 154;refine (HD _).mono ?_;rintro x1 w2 ⟨rfl,hh⟩;obtain ⟨hc2,hf2⟩:=dG hh;have s2:=hh.size;have k0:=hc2 w.heap.size 0 (by simpa using l1);have k1:=hc2 w.heap.size 1 (by simpa using l1);have k2:=hc2 w.heap.size 2 (by simpa using l1);have T2:Hid (Tab w2):=TD.out.next hh;have B2:Hid (Bl w w2):=B1.out.drew.trans (hh.mono B1.out.drew.size);have l2:w.heap.size<w2.heap.size:=Nat.lt_of_lt_of_le l1 s2)
     | (go_at_call 153;refine (HP _ T2.out).mono ?_;rintro x1 w3 ⟨rfl,hh3⟩;obtain ⟨hc3,hf3⟩:=dG hh3;have j0:=hc3 w.heap.size 0 l2;have j1:=hc3 w.heap.size 1 l2;have j2:=hc3 w.heap.size 2 l2;have B3:Hid (Bl w w3):=B2.out.trans (hh3.mono B2.out.size)))
   all_goals
    go_wp2
    go_ret
    exact ⟨y,rfl,ANS.out,B3.out⟩
theorem GrB.far {W:World}{K:Nat}{a b c:Value}(h:GrB W K a b c) (p:Addr) (v:Value) (n:K ≠ p.block):GrB (W.setCell p v) K a b c:=by
 have e:(W.setCell p v).heap[K]?=W.heap[K]?:=Below.heap_setCell W p v K n
 have k:=fun o=>World.cell?_of_block (w:=W) (w':=W.setCell p v) (a:=⟨K,o,none⟩) e
 have j:=fun o=>World.frozen?_of_block (w:=W) (w':=W.setCell p v) (a:=⟨K,o,none⟩) e
 have z:K<(W.setCell p v).heap.size:=by simpa using h.lt
 exact ⟨z,(k 0).trans h.a0,(k 1).trans h.a1,(k 2).trans h.a2,(j 0).trans h.f0,(j 1).trans h.f1,(j 2).trans h.f2⟩
theorem GrB.fill {W:World}{K:Nat}{a b c:Value}(h:GrB W K a b c) (x y z:Value):GrB (((W.setCell ⟨K,0,none⟩ x).setCell ⟨K,1,none⟩ y).setCell ⟨K,2,none⟩ z) K x y z:=by
 obtain ⟨l,a0,a1,a2,f0,f1,f2⟩:=h
 refine ⟨by simpa using l,?_,?_,?_,(World.frozen?_setCell ..).trans ((World.frozen?_setCell ..).trans ((World.frozen?_setCell ..).trans f0)),(World.frozen?_setCell ..).trans ((World.frozen?_setCell ..).trans ((World.frozen?_setCell ..).trans f1)),(World.frozen?_setCell ..).trans ((World.frozen?_setCell ..).trans ((World.frozen?_setCell ..).trans f2))⟩
 . exact (World.cell?_setCell_other _ ⟨K,2,none⟩ ⟨K,0,none⟩ z (by intro e;cases e)).trans ((World.cell?_setCell_other _ ⟨K,1,none⟩ ⟨K,0,none⟩ y (by intro e;cases e)).trans (World.cell?_setCell_same _ _ _ a0))
 . exact (World.cell?_setCell_other _ ⟨K,2,none⟩ ⟨K,1,none⟩ z (by intro e;cases e)).trans (World.cell?_setCell_same _ _ _ ((World.cell?_setCell_other _ ⟨K,0,none⟩ ⟨K,1,none⟩ x (by intro e;cases e)).trans a1))
 . exact World.cell?_setCell_same _ _ _ ((World.cell?_setCell_other _ ⟨K,1,none⟩ ⟨K,2,none⟩ y (by intro e;cases e)).trans ((World.cell?_setCell_other _ ⟨K,0,none⟩ ⟨K,2,none⟩ x (by intro e;cases e)).trans a2))
theorem TwB.fill {W:World}{K:Nat}{a b:Value}(h:TwB W K a b) (x y:Value):TwB ((W.setCell ⟨K,0,none⟩ x).setCell ⟨K,1,none⟩ y) K x y:=by
 obtain ⟨l,a0,a1,f0,f1⟩:=h
 refine ⟨by simpa using l,?_,?_,(World.frozen?_setCell ..).trans ((World.frozen?_setCell ..).trans f0),(World.frozen?_setCell ..).trans ((World.frozen?_setCell ..).trans f1)⟩
 . exact (World.cell?_setCell_other _ ⟨K,1,none⟩ ⟨K,0,none⟩ y (by intro e;cases e)).trans (World.cell?_setCell_same _ _ _ a0)
 . exact World.cell?_setCell_same _ _ _ ((World.cell?_setCell_other _ ⟨K,0,none⟩ ⟨K,1,none⟩ x (by intro e;cases e)).trans a1)
theorem kK {M:Nat}(h:M+1<2 ^ 128):sHi (hiW M) (loW M) 0 1=hiW (M+1)/\sLo (loW M) 1=loW (M+1):=by
 rw [show 2 ^ 128=340282366920938463463374607431768211456 from rfl] at h
 unfold sHi sLo a3C lL hiW loW
 constructor <;> omega
theorem aDj {M m:Nat}{E:Int}(hM:M+1<2 ^ 128) (hm:m<18446744073709551616) (w:World):Cb 112 #[vU (m:Int),.bool false,pwV M E true] w (.tuple #[lgV (M * m),lgV (M * m)]):=by
 have T1:=fun W=>fL (M:=M) (b:=m) (by omega) hm W
 unfold lgV at *
 unfold pwV
 generalize x2 (M * m)=p2 at *
 generalize x1 (M * m)=p1 at *
 generalize x0 (M * m)=p0 at *
 generalize hiW M=h at *
 generalize loW M=l at *
 clear hM hm
 have P0:Hid (FlB ((((w.alloc (.cells #[vU h,vU l,vI E,.bool true] 193)).alloc (.cells #[vU 0,vU 0,vU 0] 197)).alloc (.cells #[vU 0,vU 0,vU 0] 197)).alloc (.cells #[vU h,vU l] 191)) w.heap.size _ _ _ _):=(((FlB.new w (vU h) (vU l) (vI E) (.bool true) 193).al _).al _).al _
 have L0:Hid (GrB ((((w.alloc (.cells #[vU h,vU l,vI E,.bool true] 193)).alloc (.cells #[vU 0,vU 0,vU 0] 197)).alloc (.cells #[vU 0,vU 0,vU 0] 197)).alloc (.cells #[vU h,vU l] 191)) (w.heap.size+1) (vU 0) (vU 0) (vU 0)):=by
  have q:=((GrB.new (w.alloc (.cells #[vU h,vU l,vI E,.bool true] 193)) (vU 0) (vU 0) (vU 0) 197).al (.cells #[vU 0,vU 0,vU 0] 197)).al (.cells #[vU h,vU l] 191)
  show GrB _ _ _ _ _
  simpa using q
 have U0:Hid (GrB ((((w.alloc (.cells #[vU h,vU l,vI E,.bool true] 193)).alloc (.cells #[vU 0,vU 0,vU 0] 197)).alloc (.cells #[vU 0,vU 0,vU 0] 197)).alloc (.cells #[vU h,vU l] 191)) (w.heap.size+1+1) (vU 0) (vU 0) (vU 0)):=by
  have q:=(GrB.new ((w.alloc (.cells #[vU h,vU l,vI E,.bool true] 193)).alloc (.cells #[vU 0,vU 0,vU 0] 197)) (vU 0) (vU 0) (vU 0) 197).al (.cells #[vU h,vU l] 191)
  show GrB _ _ _ _ _
  simpa using q
 have D0:Hid (TwB ((((w.alloc (.cells #[vU h,vU l,vI E,.bool true] 193)).alloc (.cells #[vU 0,vU 0,vU 0] 197)).alloc (.cells #[vU 0,vU 0,vU 0] 197)).alloc (.cells #[vU h,vU l] 191)) (w.heap.size+1+1+1) (vU h) (vU l)):=by
  have q:=TwB.new (((w.alloc (.cells #[vU h,vU l,vI E,.bool true] 193)).alloc (.cells #[vU 0,vU 0,vU 0] 197)).alloc (.cells #[vU 0,vU 0,vU 0] 197)) (vU h) (vU l) 191
  show TwB _ _ _ _
  simpa using q
 have B0:Hid (Bl w ((((w.alloc (.cells #[vU h,vU l,vI E,.bool true] 193)).alloc (.cells #[vU 0,vU 0,vU 0] 197)).alloc (.cells #[vU 0,vU 0,vU 0] 197)).alloc (.cells #[vU h,vU l] 191))):=(((bz _ _).alloc (by simp) _).alloc (by simp;omega) _).alloc (by simp;omega) _
 go_enter Tryz.func112,Tryz.ntmps112
 go_upto_region 4 with fail
 generalize ((((w.alloc (.cells #[vU h,vU l,vI E,.bool true] 193)).alloc (.cells #[vU 0,vU 0,vU 0] 197)).alloc (.cells #[vU 0,vU 0,vU 0] 197)).alloc (.cells #[vU h,vU l] 191))=v at *
 have P2:Hid (FlB v.drew w.heap.size _ _ _ _):=P0.out.drew
 have L2:Hid (GrB v.drew (w.heap.size+1) _ _ _):=L0.out.step (Below.refl _ _).drew
 have U2:Hid (GrB v.drew (w.heap.size+1+1) _ _ _):=U0.out.step (Below.refl _ _).drew
 have D2:Hid (TwB v.drew (w.heap.size+1+1+1) _ _):=D0.out.step (Below.refl _ _).drew
 have B2:Hid (Bl w v.drew):=B0.out.drew
 obtain ⟨y1,a0,a1,a2,a3,_,_,_,_⟩:=P0.out
 obtain ⟨y2,_,_,_,f0,f1,f2⟩:=L0.out
 obtain ⟨y3,_,_,_,g0,g1,g2⟩:=U0.out
 obtain ⟨y4,d0,d1,_,_⟩:=D0.out
 go_region_held3 (fun w'=>w'.cell? ⟨w.heap.size,0,none⟩=some (vU h)/\w'.cell? ⟨w.heap.size,1,none⟩=some (vU l)/\w'.cell? ⟨w.heap.size+1+1+1,0,none⟩=some (vU h)/\w'.cell? ⟨w.heap.size+1+1+1,1,none⟩=some (vU l)/\w'.frozen? ⟨w.heap.size+1,0,none⟩=false/\w'.frozen? ⟨w.heap.size+1,1,none⟩=false/\w'.frozen? ⟨w.heap.size+1,2,none⟩=false/\w'.frozen? ⟨w.heap.size+1+1,0,none⟩=false/\w'.frozen? ⟨w.heap.size+1+1,1,none⟩=false/\w'.frozen? ⟨w.heap.size+1+1,2,none⟩=false) (simp [*,go_sem])
  (first
   | (go_at_call 150;refine (T1 _).mono ?_;rintro x1 wa ⟨rfl,ha⟩;have Pa:Hid (FlB wa _ _ _ _ _):=P2.out.step ha;have La:Hid (GrB wa _ _ _ _):=L2.out.step ha;have Ua:Hid (GrB wa _ _ _ _):=U2.out.step ha;have Da:Hid (TwB wa _ _ _):=D2.out.step ha;have Ba:Hid (Bl w wa):=B2.out.trans (ha.mono B2.out.size);obtain ⟨ya1,aa0,aa1,aa2,aa3,_,_,_,_⟩:=Pa.out;obtain ⟨ya2,_,_,_,fa0,fa1,fa2⟩:=La.out;obtain ⟨ya3,_,_,_,ga0,ga1,ga2⟩:=Ua.out;obtain ⟨ya4,da0,da1,_,_⟩:=Da.out)
   | (go_at_call 150;refine (T1 _).mono ?_;rintro x1 wb ⟨rfl,hb⟩;have Pb:Hid (FlB wb _ _ _ _ _):=Pa.out.step hb;have Lb:Hid (GrB wb _ _ _ _):=La.out.step hb;have Ub:Hid (GrB wb _ _ _ _):=Ua.out.step hb;have Db:Hid (TwB wb _ _ _):=Da.out.step hb;have Bb:Hid (Bl w wb):=Ba.out.trans (hb.mono Ba.out.size);obtain ⟨yb1,ab0,ab1,ab2,ab3,_,_,_,_⟩:=Pb.out;obtain ⟨yb2,_,_,_,fb0,fb1,fb2⟩:=Lb.out;obtain ⟨yb3,_,_,_,gb0,gb1,gb2⟩:=Ub.out;obtain ⟨yb4,db0,db1,_,_⟩:=Db.out))
 have L4:Hid (GrB ((((((wb.setCell ⟨w.heap.size+1,0,none⟩ (vU p2)).setCell ⟨w.heap.size+1,1,none⟩ (vU p1)).setCell ⟨w.heap.size+1,2,none⟩ (vU p0)).setCell ⟨w.heap.size+1+1,0,none⟩ (vU p2)).setCell ⟨w.heap.size+1+1,1,none⟩ (vU p1)).setCell ⟨w.heap.size+1+1,2,none⟩ (vU p0)) (w.heap.size+1) _ _ _):=(((Lb.out.fill _ _ _).far _ _ (by show w.heap.size+1 ≠ w.heap.size+1+1;omega)).far _ _ (by show w.heap.size+1 ≠ w.heap.size+1+1;omega)).far _ _ (by show w.heap.size+1 ≠ w.heap.size+1+1;omega)
 have U4:Hid (GrB ((((((wb.setCell ⟨w.heap.size+1,0,none⟩ (vU p2)).setCell ⟨w.heap.size+1,1,none⟩ (vU p1)).setCell ⟨w.heap.size+1,2,none⟩ (vU p0)).setCell ⟨w.heap.size+1+1,0,none⟩ (vU p2)).setCell ⟨w.heap.size+1+1,1,none⟩ (vU p1)).setCell ⟨w.heap.size+1+1,2,none⟩ (vU p0)) (w.heap.size+1+1) _ _ _):=(((Ub.out.far _ _ (by show w.heap.size+1+1 ≠ w.heap.size+1;omega)).far _ _ (by show w.heap.size+1+1 ≠ w.heap.size+1;omega)).far _ _ (by show w.heap.size+1+1 ≠ w.heap.size+1;omega)).fill _ _ _
 have D4:Hid (TwB ((((((wb.setCell ⟨w.heap.size+1,0,none⟩ (vU p2)).setCell ⟨w.heap.size+1,1,none⟩ (vU p1)).setCell ⟨w.heap.size+1,2,none⟩ (vU p0)).setCell ⟨w.heap.size+1+1,0,none⟩ (vU p2)).setCell ⟨w.heap.size+1+1,1,none⟩ (vU p1)).setCell ⟨w.heap.size+1+1,2,none⟩ (vU p0)) (w.heap.size+1+1+1) _ _):=(((((Db.out.far _ _ (by show w.heap.size+1+1+1 ≠ w.heap.size+1;omega)).far _ _ (by show w.heap.size+1+1+1 ≠ w.heap.size+1;omega)).far _ _ (by show w.heap.size+1+1+1 ≠ w.heap.size+1;omega)).far _ _ (by show w.heap.size+1+1+1 ≠ w.heap.size+1+1;omega)).far _ _ (by show w.heap.size+1+1+1 ≠ w.heap.size+1+1;omega)).far _ _ (by show w.heap.size+1+1+1 ≠ w.heap.size+1+1;omega)
 have B4:Hid (Bl w ((((((wb.setCell ⟨w.heap.size+1,0,none⟩ (vU p2)).setCell ⟨w.heap.size+1,1,none⟩ (vU p1)).setCell ⟨w.heap.size+1,2,none⟩ (vU p0)).setCell ⟨w.heap.size+1+1,0,none⟩ (vU p2)).setCell ⟨w.heap.size+1+1,1,none⟩ (vU p1)).setCell ⟨w.heap.size+1+1,2,none⟩ (vU p0))):=(((((Bb.out.setCell (Nat.le_add_right _ 1) _).setCell (Nat.le_add_right _ 1) _).setCell (Nat.le_add_right _ 1) _).setCell (Nat.le_add_right _ 2) _).setCell (Nat.le_add_right _ 2) _).setCell (Nat.le_add_right _ 2) _
 generalize (((((wb.setCell ⟨w.heap.size+1,0,none⟩ (vU p2)).setCell ⟨w.heap.size+1,1,none⟩ (vU p1)).setCell ⟨w.heap.size+1,2,none⟩ (vU p0)).setCell ⟨w.heap.size+1+1,0,none⟩ (vU p2)).setCell ⟨w.heap.size+1+1,1,none⟩ (vU p1)).setCell ⟨w.heap.size+1+1,2,none⟩ (vU p0)=u at *
 clear P0 L0 U0 D0 B0 P2 L2 U2 D2 B2 Pa La Ua Da Ba Pb Lb Ub Db Bb ha hb T1
 clear y1 a0 a1 a2 a3 y2 f0 f1 f2 y3 g0 g1 g2 y4 d0 d1 ya1 aa0 aa1 aa2 aa3 ya2 fa0 fa1 fa2 ya3 ga0 ga1 ga2 ya4 da0 da1 yb1 ab0 ab1 ab2 ab3 yb2 fb0 fb1 fb2 yb3 gb0 gb1 gb2 yb4 db0 db1
 go_upto_region 7 with fail
 have L6:Hid (GrB u (w.heap.size+1) _ _ _):=L4.out
 have U6:Hid (GrB u (w.heap.size+1+1) _ _ _):=U4.out
 have B6:Hid (Bl w u):=B4.out
 clear L4 U4 D4 B4
 obtain ⟨_,l0,l1,l2',j0,j1,j2⟩:=L6.out
 obtain ⟨_,u0,u1,u2,k0,k1,k2⟩:=U6.out
 go_region_held3 (fun w'=>w'.cell? ⟨w.heap.size+1,0,none⟩=some (vU p2)/\w'.cell? ⟨w.heap.size+1,1,none⟩=some (vU p1)/\w'.cell? ⟨w.heap.size+1,2,none⟩=some (vU p0)/\w'.cell? ⟨w.heap.size+1+1,0,none⟩=some (vU p2)/\w'.cell? ⟨w.heap.size+1+1,1,none⟩=some (vU p1)/\w'.cell? ⟨w.heap.size+1+1,2,none⟩=some (vU p0)/\w'.frozen? ⟨w.heap.size+1,0,none⟩=false/\w'.frozen? ⟨w.heap.size+1,1,none⟩=false/\w'.frozen? ⟨w.heap.size+1,2,none⟩=false/\w'.frozen? ⟨w.heap.size+1+1,0,none⟩=false/\w'.frozen? ⟨w.heap.size+1+1,1,none⟩=false/\w'.frozen? ⟨w.heap.size+1+1,2,none⟩=false) (simp [*,go_sem,World.cell?_setCell_same,World.cell?_setCell_other]) (fail)
 go_wp2
 have L7:Hid (GrB ((((((u.setCell ⟨w.heap.size+1,0,none⟩ (vU p2)).setCell ⟨w.heap.size+1,1,none⟩ (vU p1)).setCell ⟨w.heap.size+1,2,none⟩ (vU p0)).setCell ⟨w.heap.size+1+1,0,none⟩ (vU p2)).setCell ⟨w.heap.size+1+1,1,none⟩ (vU p1)).setCell ⟨w.heap.size+1+1,2,none⟩ (vU p0)).drew (w.heap.size+1) _ _ _):=((((L6.out.fill _ _ _).far _ _ (by show w.heap.size+1 ≠ w.heap.size+1+1;omega)).far _ _ (by show w.heap.size+1 ≠ w.heap.size+1+1;omega)).far _ _ (by show w.heap.size+1 ≠ w.heap.size+1+1;omega)).step (Below.refl _ _).drew
 have U7:Hid (GrB ((((((u.setCell ⟨w.heap.size+1,0,none⟩ (vU p2)).setCell ⟨w.heap.size+1,1,none⟩ (vU p1)).setCell ⟨w.heap.size+1,2,none⟩ (vU p0)).setCell ⟨w.heap.size+1+1,0,none⟩ (vU p2)).setCell ⟨w.heap.size+1+1,1,none⟩ (vU p1)).setCell ⟨w.heap.size+1+1,2,none⟩ (vU p0)).drew (w.heap.size+1+1) _ _ _):=((((U6.out.far _ _ (by show w.heap.size+1+1 ≠ w.heap.size+1;omega)).far _ _ (by show w.heap.size+1+1 ≠ w.heap.size+1;omega)).far _ _ (by show w.heap.size+1+1 ≠ w.heap.size+1;omega)).fill _ _ _).step (Below.refl _ _).drew
 have B7:Hid (Bl w ((((((u.setCell ⟨w.heap.size+1,0,none⟩ (vU p2)).setCell ⟨w.heap.size+1,1,none⟩ (vU p1)).setCell ⟨w.heap.size+1,2,none⟩ (vU p0)).setCell ⟨w.heap.size+1+1,0,none⟩ (vU p2)).setCell ⟨w.heap.size+1+1,1,none⟩ (vU p1)).setCell ⟨w.heap.size+1+1,2,none⟩ (vU p0)).drew):=((((((B6.out.setCell (Nat.le_add_right _ 1) _).setCell (Nat.le_add_right _ 1) _).setCell (Nat.le_add_right _ 1) _).setCell (Nat.le_add_right _ 2) _).setCell (Nat.le_add_right _ 2) _).setCell (Nat.le_add_right _ 2) _).drew
 generalize ((((((u.setCell ⟨w.heap.size+1,0,none⟩ (vU p2)).setCell ⟨w.heap.size+1,1,none⟩ (vU p1)).setCell ⟨w.heap.size+1,2,none⟩ (vU p0)).setCell ⟨w.heap.size+1+1,0,none⟩ (vU p2)).setCell ⟨w.heap.size+1+1,1,none⟩ (vU p1)).setCell ⟨w.heap.size+1+1,2,none⟩ (vU p0)).drew=z9 at *
 obtain ⟨_,n0,n1,n2,_,_,_⟩:=L7.out
 obtain ⟨_,o0,o1,o2,_,_,_⟩:=U7.out
 exact bodyPost_ret (v:=.tuple #[.agg #[vU p2,vU p1,vU p0],.agg #[vU p2,vU p1,vU p0]]) (by simp [results,Tryz.results112,go_sem,n0,n1,n2,o0,o1,o2]) rfl ⟨rfl,B7.out⟩
theorem aDi {M m:Nat}{E:Int}(hM:M+1<2 ^ 128) (hm:m<18446744073709551616) (w:World):Cb 112 #[vU (m:Int),.bool true,pwV M E true] w (.tuple #[lgV (M * m),lgV (M * m+M)]):=by
 have T1:=fun W=>fL (M:=M) (b:=m) (by omega) hm W
 have hs:M * m+M<2 ^ 192:=by
  have q:M * (m+1)<2 ^ 128 * 2 ^ 64:=Nat.lt_of_lt_of_le (Nat.mul_lt_mul_of_pos_right (show M<2 ^ 128 by omega) (Nat.succ_pos m)) (Nat.mul_le_mul_left _ hm)
  rw [Nat.mul_add,Nat.mul_one] at q
  exact q
 have PL:=fun W=>aBD (X:=M * m) (D:=M) (by omega) hs W
 clear hs
 unfold lgV at *
 unfold pwV
 generalize x2 (M * m)=p2 at *
 generalize x1 (M * m)=p1 at *
 generalize x0 (M * m)=p0 at *
 generalize x2 (M * m+M)=r2 at *
 generalize x1 (M * m+M)=r1 at *
 generalize x0 (M * m+M)=r0 at *
 generalize hiW M=h at *
 generalize loW M=l at *
 clear hM hm
 have P0:Hid (FlB ((((w.alloc (.cells #[vU h,vU l,vI E,.bool true] 193)).alloc (.cells #[vU 0,vU 0,vU 0] 197)).alloc (.cells #[vU 0,vU 0,vU 0] 197)).alloc (.cells #[vU h,vU l] 191)) w.heap.size _ _ _ _):=(((FlB.new w (vU h) (vU l) (vI E) (.bool true) 193).al _).al _).al _
 have L0:Hid (GrB ((((w.alloc (.cells #[vU h,vU l,vI E,.bool true] 193)).alloc (.cells #[vU 0,vU 0,vU 0] 197)).alloc (.cells #[vU 0,vU 0,vU 0] 197)).alloc (.cells #[vU h,vU l] 191)) (w.heap.size+1) (vU 0) (vU 0) (vU 0)):=by
  have q:=((GrB.new (w.alloc (.cells #[vU h,vU l,vI E,.bool true] 193)) (vU 0) (vU 0) (vU 0) 197).al (.cells #[vU 0,vU 0,vU 0] 197)).al (.cells #[vU h,vU l] 191)
  show GrB _ _ _ _ _
  simpa using q
 have U0:Hid (GrB ((((w.alloc (.cells #[vU h,vU l,vI E,.bool true] 193)).alloc (.cells #[vU 0,vU 0,vU 0] 197)).alloc (.cells #[vU 0,vU 0,vU 0] 197)).alloc (.cells #[vU h,vU l] 191)) (w.heap.size+1+1) (vU 0) (vU 0) (vU 0)):=by
  have q:=(GrB.new ((w.alloc (.cells #[vU h,vU l,vI E,.bool true] 193)).alloc (.cells #[vU 0,vU 0,vU 0] 197)) (vU 0) (vU 0) (vU 0) 197).al (.cells #[vU h,vU l] 191)
  show GrB _ _ _ _ _
  simpa using q
 have D0:Hid (TwB ((((w.alloc (.cells #[vU h,vU l,vI E,.bool true] 193)).alloc (.cells #[vU 0,vU 0,vU 0] 197)).alloc (.cells #[vU 0,vU 0,vU 0] 197)).alloc (.cells #[vU h,vU l] 191)) (w.heap.size+1+1+1) (vU h) (vU l)):=by
  have q:=TwB.new (((w.alloc (.cells #[vU h,vU l,vI E,.bool true] 193)).alloc (.cells #[vU 0,vU 0,vU 0] 197)).alloc (.cells #[vU 0,vU 0,vU 0] 197)) (vU h) (vU l) 191
  show TwB _ _ _ _
  simpa using q
 have B0:Hid (Bl w ((((w.alloc (.cells #[vU h,vU l,vI E,.bool true] 193)).alloc (.cells #[vU 0,vU 0,vU 0] 197)).alloc (.cells #[vU 0,vU 0,vU 0] 197)).alloc (.cells #[vU h,vU l] 191))):=(((bz _ _).alloc (by simp) _).alloc (by simp;omega) _).alloc (by simp;omega) _
 go_enter Tryz.func112,Tryz.ntmps112
 go_upto_region 4 with fail
 generalize ((((w.alloc (.cells #[vU h,vU l,vI E,.bool true] 193)).alloc (.cells #[vU 0,vU 0,vU 0] 197)).alloc (.cells #[vU 0,vU 0,vU 0] 197)).alloc (.cells #[vU h,vU l] 191))=v at *
 have P2:Hid (FlB v.drew w.heap.size _ _ _ _):=P0.out.drew
 have L2:Hid (GrB v.drew (w.heap.size+1) _ _ _):=L0.out.step (Below.refl _ _).drew
 have U2:Hid (GrB v.drew (w.heap.size+1+1) _ _ _):=U0.out.step (Below.refl _ _).drew
 have D2:Hid (TwB v.drew (w.heap.size+1+1+1) _ _):=D0.out.step (Below.refl _ _).drew
 have B2:Hid (Bl w v.drew):=B0.out.drew
 obtain ⟨y1,a0,a1,a2,a3,_,_,_,_⟩:=P0.out
 obtain ⟨y2,_,_,_,f0,f1,f2⟩:=L0.out
 obtain ⟨y3,_,_,_,g0,g1,g2⟩:=U0.out
 obtain ⟨y4,d0,d1,_,_⟩:=D0.out
 go_region_held3 (fun w'=>w'.cell? ⟨w.heap.size,0,none⟩=some (vU h)/\w'.cell? ⟨w.heap.size,1,none⟩=some (vU l)/\w'.cell? ⟨w.heap.size+1+1+1,0,none⟩=some (vU h)/\w'.cell? ⟨w.heap.size+1+1+1,1,none⟩=some (vU l)/\w'.frozen? ⟨w.heap.size+1,0,none⟩=false/\w'.frozen? ⟨w.heap.size+1,1,none⟩=false/\w'.frozen? ⟨w.heap.size+1,2,none⟩=false/\w'.frozen? ⟨w.heap.size+1+1,0,none⟩=false/\w'.frozen? ⟨w.heap.size+1+1,1,none⟩=false/\w'.frozen? ⟨w.heap.size+1+1,2,none⟩=false) (simp [*,go_sem])
  (first
   | (go_at_call 150;refine (T1 _).mono ?_;rintro x1 wa ⟨rfl,ha⟩;have Pa:Hid (FlB wa _ _ _ _ _):=P2.out.step ha;have La:Hid (GrB wa _ _ _ _):=L2.out.step ha;have Ua:Hid (GrB wa _ _ _ _):=U2.out.step ha;have Da:Hid (TwB wa _ _ _):=D2.out.step ha;have Ba:Hid (Bl w wa):=B2.out.trans (ha.mono B2.out.size);obtain ⟨ya1,aa0,aa1,aa2,aa3,_,_,_,_⟩:=Pa.out;obtain ⟨ya2,_,_,_,fa0,fa1,fa2⟩:=La.out;obtain ⟨ya3,_,_,_,ga0,ga1,ga2⟩:=Ua.out;obtain ⟨ya4,da0,da1,_,_⟩:=Da.out)
   | (go_at_call 150;refine (T1 _).mono ?_;rintro x1 wb ⟨rfl,hb⟩;have Pb:Hid (FlB wb _ _ _ _ _):=Pa.out.step hb;have Lb:Hid (GrB wb _ _ _ _):=La.out.step hb;have Ub:Hid (GrB wb _ _ _ _):=Ua.out.step hb;have Db:Hid (TwB wb _ _ _):=Da.out.step hb;have Bb:Hid (Bl w wb):=Ba.out.trans (hb.mono Ba.out.size);obtain ⟨yb1,ab0,ab1,ab2,ab3,_,_,_,_⟩:=Pb.out;obtain ⟨yb2,_,_,_,fb0,fb1,fb2⟩:=Lb.out;obtain ⟨yb3,_,_,_,gb0,gb1,gb2⟩:=Ub.out;obtain ⟨yb4,db0,db1,_,_⟩:=Db.out))
 have L4:Hid (GrB ((((((wb.setCell ⟨w.heap.size+1,0,none⟩ (vU p2)).setCell ⟨w.heap.size+1,1,none⟩ (vU p1)).setCell ⟨w.heap.size+1,2,none⟩ (vU p0)).setCell ⟨w.heap.size+1+1,0,none⟩ (vU p2)).setCell ⟨w.heap.size+1+1,1,none⟩ (vU p1)).setCell ⟨w.heap.size+1+1,2,none⟩ (vU p0)) (w.heap.size+1) _ _ _):=(((Lb.out.fill _ _ _).far _ _ (by show w.heap.size+1 ≠ w.heap.size+1+1;omega)).far _ _ (by show w.heap.size+1 ≠ w.heap.size+1+1;omega)).far _ _ (by show w.heap.size+1 ≠ w.heap.size+1+1;omega)
 have U4:Hid (GrB ((((((wb.setCell ⟨w.heap.size+1,0,none⟩ (vU p2)).setCell ⟨w.heap.size+1,1,none⟩ (vU p1)).setCell ⟨w.heap.size+1,2,none⟩ (vU p0)).setCell ⟨w.heap.size+1+1,0,none⟩ (vU p2)).setCell ⟨w.heap.size+1+1,1,none⟩ (vU p1)).setCell ⟨w.heap.size+1+1,2,none⟩ (vU p0)) (w.heap.size+1+1) _ _ _):=(((Ub.out.far _ _ (by show w.heap.size+1+1 ≠ w.heap.size+1;omega)).far _ _ (by show w.heap.size+1+1 ≠ w.heap.size+1;omega)).far _ _ (by show w.heap.size+1+1 ≠ w.heap.size+1;omega)).fill _ _ _
 have D4:Hid (TwB ((((((wb.setCell ⟨w.heap.size+1,0,none⟩ (vU p2)).setCell ⟨w.heap.size+1,1,none⟩ (vU p1)).setCell ⟨w.heap.size+1,2,none⟩ (vU p0)).setCell ⟨w.heap.size+1+1,0,none⟩ (vU p2)).setCell ⟨w.heap.size+1+1,1,none⟩ (vU p1)).setCell ⟨w.heap.size+1+1,2,none⟩ (vU p0)) (w.heap.size+1+1+1) _ _):=(((((Db.out.far _ _ (by show w.heap.size+1+1+1 ≠ w.heap.size+1;omega)).far _ _ (by show w.heap.size+1+1+1 ≠ w.heap.size+1;omega)).far _ _ (by show w.heap.size+1+1+1 ≠ w.heap.size+1;omega)).far _ _ (by show w.heap.size+1+1+1 ≠ w.heap.size+1+1;omega)).far _ _ (by show w.heap.size+1+1+1 ≠ w.heap.size+1+1;omega)).far _ _ (by show w.heap.size+1+1+1 ≠ w.heap.size+1+1;omega)
 have B4:Hid (Bl w ((((((wb.setCell ⟨w.heap.size+1,0,none⟩ (vU p2)).setCell ⟨w.heap.size+1,1,none⟩ (vU p1)).setCell ⟨w.heap.size+1,2,none⟩ (vU p0)).setCell ⟨w.heap.size+1+1,0,none⟩ (vU p2)).setCell ⟨w.heap.size+1+1,1,none⟩ (vU p1)).setCell ⟨w.heap.size+1+1,2,none⟩ (vU p0))):=(((((Bb.out.setCell (Nat.le_add_right _ 1) _).setCell (Nat.le_add_right _ 1) _).setCell (Nat.le_add_right _ 1) _).setCell (Nat.le_add_right _ 2) _).setCell (Nat.le_add_right _ 2) _).setCell (Nat.le_add_right _ 2) _
 generalize (((((wb.setCell ⟨w.heap.size+1,0,none⟩ (vU p2)).setCell ⟨w.heap.size+1,1,none⟩ (vU p1)).setCell ⟨w.heap.size+1,2,none⟩ (vU p0)).setCell ⟨w.heap.size+1+1,0,none⟩ (vU p2)).setCell ⟨w.heap.size+1+1,1,none⟩ (vU p1)).setCell ⟨w.heap.size+1+1,2,none⟩ (vU p0)=u at *
 clear P0 L0 U0 D0 B0 P2 L2 U2 D2 B2 Pa La Ua Da Ba Pb Lb Ub Db Bb ha hb T1
 clear y1 a0 a1 a2 a3 y2 f0 f1 f2 y3 g0 g1 g2 y4 d0 d1 ya1 aa0 aa1 aa2 aa3 ya2 fa0 fa1 fa2 ya3 ga0 ga1 ga2 ya4 da0 da1 yb1 ab0 ab1 ab2 ab3 yb2 fb0 fb1 fb2 yb3 gb0 gb1 gb2 yb4 db0 db1
 obtain ⟨_,u0,u1,u2,k0,k1,k2⟩:=U4.out
 obtain ⟨_,d0,d1,_,_⟩:=D4.out
 go_wp2_with fail
 refine (PL _).mono ?_
 rintro e z ⟨rfl,hz⟩
 have L5:Hid (GrB z (w.heap.size+1) _ _ _):=L4.out.step hz
 have U5:Hid (GrB z (w.heap.size+1+1) _ _ _):=U4.out.step hz
 have B5:Hid (Bl w z):=B4.out.trans (hz.mono B4.out.size)
 clear L4 U4 D4 B4 u0 u1 u2 k0 k1 k2 d0 d1 hz PL
 obtain ⟨_,u0,u1,u2,k0,k1,k2⟩:=U5.out
 go_upto_region 7 with fail
 have L6:Hid (GrB (((z.setCell ⟨w.heap.size+1+1,0,none⟩ (vU r2)).setCell ⟨w.heap.size+1+1,1,none⟩ (vU r1)).setCell ⟨w.heap.size+1+1,2,none⟩ (vU r0)) (w.heap.size+1) _ _ _):=((L5.out.far _ _ (by show w.heap.size+1 ≠ w.heap.size+1+1;omega)).far _ _ (by show w.heap.size+1 ≠ w.heap.size+1+1;omega)).far _ _ (by show w.heap.size+1 ≠ w.heap.size+1+1;omega)
 have U6:Hid (GrB (((z.setCell ⟨w.heap.size+1+1,0,none⟩ (vU r2)).setCell ⟨w.heap.size+1+1,1,none⟩ (vU r1)).setCell ⟨w.heap.size+1+1,2,none⟩ (vU r0)) (w.heap.size+1+1) _ _ _):=U5.out.fill _ _ _
 have B6:Hid (Bl w (((z.setCell ⟨w.heap.size+1+1,0,none⟩ (vU r2)).setCell ⟨w.heap.size+1+1,1,none⟩ (vU r1)).setCell ⟨w.heap.size+1+1,2,none⟩ (vU r0))):=((B5.out.setCell (Nat.le_add_right _ 2) _).setCell (Nat.le_add_right _ 2) _).setCell (Nat.le_add_right _ 2) _
 generalize ((z.setCell ⟨w.heap.size+1+1,0,none⟩ (vU r2)).setCell ⟨w.heap.size+1+1,1,none⟩ (vU r1)).setCell ⟨w.heap.size+1+1,2,none⟩ (vU r0)=u' at *
 clear L5 U5 B5 u0 u1 u2 k0 k1 k2
 obtain ⟨_,l0,l1,l2',j0,j1,j2⟩:=L6.out
 obtain ⟨_,u0,u1,u2,k0,k1,k2⟩:=U6.out
 go_region_held3 (fun w'=>w'.cell? ⟨w.heap.size+1,0,none⟩=some (vU p2)/\w'.cell? ⟨w.heap.size+1,1,none⟩=some (vU p1)/\w'.cell? ⟨w.heap.size+1,2,none⟩=some (vU p0)/\w'.cell? ⟨w.heap.size+1+1,0,none⟩=some (vU r2)/\w'.cell? ⟨w.heap.size+1+1,1,none⟩=some (vU r1)/\w'.cell? ⟨w.heap.size+1+1,2,none⟩=some (vU r0)/\w'.frozen? ⟨w.heap.size+1,0,none⟩=false/\w'.frozen? ⟨w.heap.size+1,1,none⟩=false/\w'.frozen? ⟨w.heap.size+1,2,none⟩=false/\w'.frozen? ⟨w.heap.size+1+1,0,none⟩=false/\w'.frozen? ⟨w.heap.size+1+1,1,none⟩=false/\w'.frozen? ⟨w.heap.size+1+1,2,none⟩=false) (simp [*,go_sem,World.cell?_setCell_same,World.cell?_setCell_other]) (fail)
 go_wp2
 have L7:Hid (GrB ((((((u'.setCell ⟨w.heap.size+1,0,none⟩ (vU p2)).setCell ⟨w.heap.size+1,1,none⟩ (vU p1)).setCell ⟨w.heap.size+1,2,none⟩ (vU p0)).setCell ⟨w.heap.size+1+1,0,none⟩ (vU r2)).setCell ⟨w.heap.size+1+1,1,none⟩ (vU r1)).setCell ⟨w.heap.size+1+1,2,none⟩ (vU r0)).drew (w.heap.size+1) _ _ _):=((((L6.out.fill _ _ _).far _ _ (by show w.heap.size+1 ≠ w.heap.size+1+1;omega)).far _ _ (by show w.heap.size+1 ≠ w.heap.size+1+1;omega)).far _ _ (by show w.heap.size+1 ≠ w.heap.size+1+1;omega)).step (Below.refl _ _).drew
 have U7:Hid (GrB ((((((u'.setCell ⟨w.heap.size+1,0,none⟩ (vU p2)).setCell ⟨w.heap.size+1,1,none⟩ (vU p1)).setCell ⟨w.heap.size+1,2,none⟩ (vU p0)).setCell ⟨w.heap.size+1+1,0,none⟩ (vU r2)).setCell ⟨w.heap.size+1+1,1,none⟩ (vU r1)).setCell ⟨w.heap.size+1+1,2,none⟩ (vU r0)).drew (w.heap.size+1+1) _ _ _):=((((U6.out.far _ _ (by show w.heap.size+1+1 ≠ w.heap.size+1;omega)).far _ _ (by show w.heap.size+1+1 ≠ w.heap.size+1;omega)).far _ _ (by show w.heap.size+1+1 ≠ w.heap.size+1;omega)).fill _ _ _).step (Below.refl _ _).drew
 have B7:Hid (Bl w ((((((u'.setCell ⟨w.heap.size+1,0,none⟩ (vU p2)).setCell ⟨w.heap.size+1,1,none⟩ (vU p1)).setCell ⟨w.heap.size+1,2,none⟩ (vU p0)).setCell ⟨w.heap.size+1+1,0,none⟩ (vU r2)).setCell ⟨w.heap.size+1+1,1,none⟩ (vU r1)).setCell ⟨w.heap.size+1+1,2,none⟩ (vU r0)).drew):=((((((B6.out.setCell (Nat.le_add_right _ 1) _).setCell (Nat.le_add_right _ 1) _).setCell (Nat.le_add_right _ 1) _).setCell (Nat.le_add_right _ 2) _).setCell (Nat.le_add_right _ 2) _).setCell (Nat.le_add_right _ 2) _).drew
 generalize ((((((u'.setCell ⟨w.heap.size+1,0,none⟩ (vU p2)).setCell ⟨w.heap.size+1,1,none⟩ (vU p1)).setCell ⟨w.heap.size+1,2,none⟩ (vU p0)).setCell ⟨w.heap.size+1+1,0,none⟩ (vU r2)).setCell ⟨w.heap.size+1+1,1,none⟩ (vU r1)).setCell ⟨w.heap.size+1+1,2,none⟩ (vU r0)).drew=z9 at *
 obtain ⟨_,n0,n1,n2,_,_,_⟩:=L7.out
 obtain ⟨_,o0,o1,o2,_,_,_⟩:=U7.out
 exact bodyPost_ret (v:=.tuple #[.agg #[vU p2,vU p1,vU p0],.agg #[vU r2,vU r1,vU r0]]) (by simp [results,Tryz.results112,go_sem,n0,n1,n2,o0,o1,o2]) rfl ⟨rfl,B7.out⟩
theorem aDh {M m:Nat}{E:Int}(hM:M+1<2 ^ 128) (hm:m<18446744073709551616) (w:World):Cb 112 #[vU (m:Int),.bool false,pwV M E false] w (.tuple #[lgV (M * m),lgV ((M+1) * m)]):=by
 have T1:=fun W=>fL (M:=M) (b:=m) (by omega) hm W
 have T2:=fun W=>fL (M:=M+1) (b:=m) hM hm W
 have AD:=fun W=>pR (hiW M) (loW M) 0 1 (dB (by omega)) (dY M) ⟨by decide,by decide⟩ ⟨by decide,by decide⟩ W
 rw [(kK hM).1,(kK hM).2] at AD
 unfold lgV at *
 unfold pwV
 generalize x2 (M * m)=p2 at *
 generalize x1 (M * m)=p1 at *
 generalize x0 (M * m)=p0 at *
 generalize x2 ((M+1) * m)=q2 at *
 generalize x1 ((M+1) * m)=q1 at *
 generalize x0 ((M+1) * m)=q0 at *
 generalize hiW (M+1)=h2 at *
 generalize loW (M+1)=l2 at *
 generalize sOv (hiW M) (loW M) 0 1=ov at *
 generalize hiW M=h at *
 generalize loW M=l at *
 clear hM hm
 have P0:Hid (FlB ((((w.alloc (.cells #[vU h,vU l,vI E,.bool false] 193)).alloc (.cells #[vU 0,vU 0,vU 0] 197)).alloc (.cells #[vU 0,vU 0,vU 0] 197)).alloc (.cells #[vU h,vU l] 191)) w.heap.size _ _ _ _):=(((FlB.new w (vU h) (vU l) (vI E) (.bool false) 193).al _).al _).al _
 have L0:Hid (GrB ((((w.alloc (.cells #[vU h,vU l,vI E,.bool false] 193)).alloc (.cells #[vU 0,vU 0,vU 0] 197)).alloc (.cells #[vU 0,vU 0,vU 0] 197)).alloc (.cells #[vU h,vU l] 191)) (w.heap.size+1) (vU 0) (vU 0) (vU 0)):=by
  have q:=((GrB.new (w.alloc (.cells #[vU h,vU l,vI E,.bool false] 193)) (vU 0) (vU 0) (vU 0) 197).al (.cells #[vU 0,vU 0,vU 0] 197)).al (.cells #[vU h,vU l] 191)
  show GrB _ _ _ _ _
  simpa using q
 have U0:Hid (GrB ((((w.alloc (.cells #[vU h,vU l,vI E,.bool false] 193)).alloc (.cells #[vU 0,vU 0,vU 0] 197)).alloc (.cells #[vU 0,vU 0,vU 0] 197)).alloc (.cells #[vU h,vU l] 191)) (w.heap.size+1+1) (vU 0) (vU 0) (vU 0)):=by
  have q:=(GrB.new ((w.alloc (.cells #[vU h,vU l,vI E,.bool false] 193)).alloc (.cells #[vU 0,vU 0,vU 0] 197)) (vU 0) (vU 0) (vU 0) 197).al (.cells #[vU h,vU l] 191)
  show GrB _ _ _ _ _
  simpa using q
 have D0:Hid (TwB ((((w.alloc (.cells #[vU h,vU l,vI E,.bool false] 193)).alloc (.cells #[vU 0,vU 0,vU 0] 197)).alloc (.cells #[vU 0,vU 0,vU 0] 197)).alloc (.cells #[vU h,vU l] 191)) (w.heap.size+1+1+1) (vU h) (vU l)):=by
  have q:=TwB.new (((w.alloc (.cells #[vU h,vU l,vI E,.bool false] 193)).alloc (.cells #[vU 0,vU 0,vU 0] 197)).alloc (.cells #[vU 0,vU 0,vU 0] 197)) (vU h) (vU l) 191
  show TwB _ _ _ _
  simpa using q
 have B0:Hid (Bl w ((((w.alloc (.cells #[vU h,vU l,vI E,.bool false] 193)).alloc (.cells #[vU 0,vU 0,vU 0] 197)).alloc (.cells #[vU 0,vU 0,vU 0] 197)).alloc (.cells #[vU h,vU l] 191))):=(((bz _ _).alloc (by simp) _).alloc (by simp;omega) _).alloc (by simp;omega) _
 go_enter Tryz.func112,Tryz.ntmps112
 go_wp2_with fail
 refine (AD _).mono ?_
 rintro e v1 ⟨rfl,hb⟩
 have P1:Hid (FlB v1 w.heap.size _ _ _ _):=P0.out.step hb
 have L1:Hid (GrB v1 (w.heap.size+1) _ _ _):=L0.out.step hb
 have U1:Hid (GrB v1 (w.heap.size+1+1) _ _ _):=U0.out.step hb
 have D1:Hid (TwB v1 (w.heap.size+1+1+1) _ _):=D0.out.step hb
 have B1:Hid (Bl w v1):=B0.out.trans (hb.mono B0.out.size)
 clear hb P0 L0 U0 D0 B0 AD
 obtain ⟨_,d0,d1,e0,e1⟩:=D1.out
 go_upto_region 4 with fail
 have P0:Hid (FlB ((v1.setCell ⟨w.heap.size+1+1+1,0,none⟩ (vU h2)).setCell ⟨w.heap.size+1+1+1,1,none⟩ (vU l2)) w.heap.size _ _ _ _):=(P1.out.far _ _ (by show w.heap.size ≠ w.heap.size+1+1+1;omega)).far _ _ (by show w.heap.size ≠ w.heap.size+1+1+1;omega)
 have L0:Hid (GrB ((v1.setCell ⟨w.heap.size+1+1+1,0,none⟩ (vU h2)).setCell ⟨w.heap.size+1+1+1,1,none⟩ (vU l2)) (w.heap.size+1) _ _ _):=(L1.out.far _ _ (by show w.heap.size+1 ≠ w.heap.size+1+1+1;omega)).far _ _ (by show w.heap.size+1 ≠ w.heap.size+1+1+1;omega)
 have U0:Hid (GrB ((v1.setCell ⟨w.heap.size+1+1+1,0,none⟩ (vU h2)).setCell ⟨w.heap.size+1+1+1,1,none⟩ (vU l2)) (w.heap.size+1+1) _ _ _):=(U1.out.far _ _ (by show w.heap.size+1+1 ≠ w.heap.size+1+1+1;omega)).far _ _ (by show w.heap.size+1+1 ≠ w.heap.size+1+1+1;omega)
 have D0:Hid (TwB ((v1.setCell ⟨w.heap.size+1+1+1,0,none⟩ (vU h2)).setCell ⟨w.heap.size+1+1+1,1,none⟩ (vU l2)) (w.heap.size+1+1+1) _ _):=D1.out.fill _ _
 have B0:Hid (Bl w ((v1.setCell ⟨w.heap.size+1+1+1,0,none⟩ (vU h2)).setCell ⟨w.heap.size+1+1+1,1,none⟩ (vU l2))):=(B1.out.setCell (Nat.le_add_right _ 3) _).setCell (Nat.le_add_right _ 3) _
 clear P1 L1 U1 D1 B1 d0 d1 e0 e1
 generalize (v1.setCell ⟨w.heap.size+1+1+1,0,none⟩ (vU h2)).setCell ⟨w.heap.size+1+1+1,1,none⟩ (vU l2)=v at *
 have P2:Hid (FlB v.drew w.heap.size _ _ _ _):=P0.out.drew
 have L2:Hid (GrB v.drew (w.heap.size+1) _ _ _):=L0.out.step (Below.refl _ _).drew
 have U2:Hid (GrB v.drew (w.heap.size+1+1) _ _ _):=U0.out.step (Below.refl _ _).drew
 have D2:Hid (TwB v.drew (w.heap.size+1+1+1) _ _):=D0.out.step (Below.refl _ _).drew
 have B2:Hid (Bl w v.drew):=B0.out.drew
 obtain ⟨y1,a0,a1,a2,a3,_,_,_,_⟩:=P0.out
 obtain ⟨y2,_,_,_,f0,f1,f2⟩:=L0.out
 obtain ⟨y3,_,_,_,g0,g1,g2⟩:=U0.out
 obtain ⟨y4,d0,d1,_,_⟩:=D0.out
 go_region_held3 (fun w'=>w'.cell? ⟨w.heap.size,0,none⟩=some (vU h)/\w'.cell? ⟨w.heap.size,1,none⟩=some (vU l)/\w'.cell? ⟨w.heap.size+1+1+1,0,none⟩=some (vU h2)/\w'.cell? ⟨w.heap.size+1+1+1,1,none⟩=some (vU l2)/\w'.frozen? ⟨w.heap.size+1,0,none⟩=false/\w'.frozen? ⟨w.heap.size+1,1,none⟩=false/\w'.frozen? ⟨w.heap.size+1,2,none⟩=false/\w'.frozen? ⟨w.heap.size+1+1,0,none⟩=false/\w'.frozen? ⟨w.heap.size+1+1,1,none⟩=false/\w'.frozen? ⟨w.heap.size+1+1,2,none⟩=false) (simp [*,go_sem])
  (first
   | (go_at_call_of 150 (Value.agg #[vU h,vU l]);refine (T1 _).mono ?_;rintro x1 wa ⟨rfl,ha⟩;have Pa:Hid (FlB wa _ _ _ _ _):=P2.out.step ha;have La:Hid (GrB wa _ _ _ _):=L2.out.step ha;have Ua:Hid (GrB wa _ _ _ _):=U2.out.step ha;have Da:Hid (TwB wa _ _ _):=D2.out.step ha;have Ba:Hid (Bl w wa):=B2.out.trans (ha.mono B2.out.size);obtain ⟨ya1,aa0,aa1,aa2,aa3,_,_,_,_⟩:=Pa.out;obtain ⟨ya2,_,_,_,fa0,fa1,fa2⟩:=La.out;obtain ⟨ya3,_,_,_,ga0,ga1,ga2⟩:=Ua.out;obtain ⟨ya4,da0,da1,_,_⟩:=Da.out)
   | (go_at_call_of 150 (Value.agg #[vU h2,vU l2]);refine (T2 _).mono ?_;rintro x1 wb ⟨rfl,hb⟩;have Pb:Hid (FlB wb _ _ _ _ _):=Pa.out.step hb;have Lb:Hid (GrB wb _ _ _ _):=La.out.step hb;have Ub:Hid (GrB wb _ _ _ _):=Ua.out.step hb;have Db:Hid (TwB wb _ _ _):=Da.out.step hb;have Bb:Hid (Bl w wb):=Ba.out.trans (hb.mono Ba.out.size);obtain ⟨yb1,ab0,ab1,ab2,ab3,_,_,_,_⟩:=Pb.out;obtain ⟨yb2,_,_,_,fb0,fb1,fb2⟩:=Lb.out;obtain ⟨yb3,_,_,_,gb0,gb1,gb2⟩:=Ub.out;obtain ⟨yb4,db0,db1,_,_⟩:=Db.out))
 have L4:Hid (GrB ((((((wb.setCell ⟨w.heap.size+1,0,none⟩ (vU p2)).setCell ⟨w.heap.size+1,1,none⟩ (vU p1)).setCell ⟨w.heap.size+1,2,none⟩ (vU p0)).setCell ⟨w.heap.size+1+1,0,none⟩ (vU q2)).setCell ⟨w.heap.size+1+1,1,none⟩ (vU q1)).setCell ⟨w.heap.size+1+1,2,none⟩ (vU q0)) (w.heap.size+1) _ _ _):=(((Lb.out.fill _ _ _).far _ _ (by show w.heap.size+1 ≠ w.heap.size+1+1;omega)).far _ _ (by show w.heap.size+1 ≠ w.heap.size+1+1;omega)).far _ _ (by show w.heap.size+1 ≠ w.heap.size+1+1;omega)
 have U4:Hid (GrB ((((((wb.setCell ⟨w.heap.size+1,0,none⟩ (vU p2)).setCell ⟨w.heap.size+1,1,none⟩ (vU p1)).setCell ⟨w.heap.size+1,2,none⟩ (vU p0)).setCell ⟨w.heap.size+1+1,0,none⟩ (vU q2)).setCell ⟨w.heap.size+1+1,1,none⟩ (vU q1)).setCell ⟨w.heap.size+1+1,2,none⟩ (vU q0)) (w.heap.size+1+1) _ _ _):=(((Ub.out.far _ _ (by show w.heap.size+1+1 ≠ w.heap.size+1;omega)).far _ _ (by show w.heap.size+1+1 ≠ w.heap.size+1;omega)).far _ _ (by show w.heap.size+1+1 ≠ w.heap.size+1;omega)).fill _ _ _
 have D4:Hid (TwB ((((((wb.setCell ⟨w.heap.size+1,0,none⟩ (vU p2)).setCell ⟨w.heap.size+1,1,none⟩ (vU p1)).setCell ⟨w.heap.size+1,2,none⟩ (vU p0)).setCell ⟨w.heap.size+1+1,0,none⟩ (vU q2)).setCell ⟨w.heap.size+1+1,1,none⟩ (vU q1)).setCell ⟨w.heap.size+1+1,2,none⟩ (vU q0)) (w.heap.size+1+1+1) _ _):=(((((Db.out.far _ _ (by show w.heap.size+1+1+1 ≠ w.heap.size+1;omega)).far _ _ (by show w.heap.size+1+1+1 ≠ w.heap.size+1;omega)).far _ _ (by show w.heap.size+1+1+1 ≠ w.heap.size+1;omega)).far _ _ (by show w.heap.size+1+1+1 ≠ w.heap.size+1+1;omega)).far _ _ (by show w.heap.size+1+1+1 ≠ w.heap.size+1+1;omega)).far _ _ (by show w.heap.size+1+1+1 ≠ w.heap.size+1+1;omega)
 have B4:Hid (Bl w ((((((wb.setCell ⟨w.heap.size+1,0,none⟩ (vU p2)).setCell ⟨w.heap.size+1,1,none⟩ (vU p1)).setCell ⟨w.heap.size+1,2,none⟩ (vU p0)).setCell ⟨w.heap.size+1+1,0,none⟩ (vU q2)).setCell ⟨w.heap.size+1+1,1,none⟩ (vU q1)).setCell ⟨w.heap.size+1+1,2,none⟩ (vU q0))):=(((((Bb.out.setCell (Nat.le_add_right _ 1) _).setCell (Nat.le_add_right _ 1) _).setCell (Nat.le_add_right _ 1) _).setCell (Nat.le_add_right _ 2) _).setCell (Nat.le_add_right _ 2) _).setCell (Nat.le_add_right _ 2) _
 generalize (((((wb.setCell ⟨w.heap.size+1,0,none⟩ (vU p2)).setCell ⟨w.heap.size+1,1,none⟩ (vU p1)).setCell ⟨w.heap.size+1,2,none⟩ (vU p0)).setCell ⟨w.heap.size+1+1,0,none⟩ (vU q2)).setCell ⟨w.heap.size+1+1,1,none⟩ (vU q1)).setCell ⟨w.heap.size+1+1,2,none⟩ (vU q0)=u at *
 clear P0 L0 U0 D0 B0 P2 L2 U2 D2 B2 Pa La Ua Da Ba Pb Lb Ub Db Bb ha hb T1
 clear y1 a0 a1 a2 a3 y2 f0 f1 f2 y3 g0 g1 g2 y4 d0 d1 ya1 aa0 aa1 aa2 aa3 ya2 fa0 fa1 fa2 ya3 ga0 ga1 ga2 ya4 da0 da1 yb1 ab0 ab1 ab2 ab3 yb2 fb0 fb1 fb2 yb3 gb0 gb1 gb2 yb4 db0 db1
 go_upto_region 7 with fail
 have L6:Hid (GrB u (w.heap.size+1) _ _ _):=L4.out
 have U6:Hid (GrB u (w.heap.size+1+1) _ _ _):=U4.out
 have B6:Hid (Bl w u):=B4.out
 clear L4 U4 D4 B4
 obtain ⟨_,l0,l1,l2',j0,j1,j2⟩:=L6.out
 obtain ⟨_,u0,u1,u2,k0,k1,k2⟩:=U6.out
 go_region_held3 (fun w'=>w'.cell? ⟨w.heap.size+1,0,none⟩=some (vU p2)/\w'.cell? ⟨w.heap.size+1,1,none⟩=some (vU p1)/\w'.cell? ⟨w.heap.size+1,2,none⟩=some (vU p0)/\w'.cell? ⟨w.heap.size+1+1,0,none⟩=some (vU q2)/\w'.cell? ⟨w.heap.size+1+1,1,none⟩=some (vU q1)/\w'.cell? ⟨w.heap.size+1+1,2,none⟩=some (vU q0)/\w'.frozen? ⟨w.heap.size+1,0,none⟩=false/\w'.frozen? ⟨w.heap.size+1,1,none⟩=false/\w'.frozen? ⟨w.heap.size+1,2,none⟩=false/\w'.frozen? ⟨w.heap.size+1+1,0,none⟩=false/\w'.frozen? ⟨w.heap.size+1+1,1,none⟩=false/\w'.frozen? ⟨w.heap.size+1+1,2,none⟩=false) (simp [*,go_sem,World.cell?_setCell_same,World.cell?_setCell_other]) (fail)
 go_wp2
 have L7:Hid (GrB ((((((u.setCell ⟨w.heap.size+1,0,none⟩ (vU p2)).setCell ⟨w.heap.size+1,1,none⟩ (vU p1)).setCell ⟨w.heap.size+1,2,none⟩ (vU p0)).setCell ⟨w.heap.size+1+1,0,none⟩ (vU q2)).setCell ⟨w.heap.size+1+1,1,none⟩ (vU q1)).setCell ⟨w.heap.size+1+1,2,none⟩ (vU q0)).drew (w.heap.size+1) _ _ _):=((((L6.out.fill _ _ _).far _ _ (by show w.heap.size+1 ≠ w.heap.size+1+1;omega)).far _ _ (by show w.heap.size+1 ≠ w.heap.size+1+1;omega)).far _ _ (by show w.heap.size+1 ≠ w.heap.size+1+1;omega)).step (Below.refl _ _).drew
 have U7:Hid (GrB ((((((u.setCell ⟨w.heap.size+1,0,none⟩ (vU p2)).setCell ⟨w.heap.size+1,1,none⟩ (vU p1)).setCell ⟨w.heap.size+1,2,none⟩ (vU p0)).setCell ⟨w.heap.size+1+1,0,none⟩ (vU q2)).setCell ⟨w.heap.size+1+1,1,none⟩ (vU q1)).setCell ⟨w.heap.size+1+1,2,none⟩ (vU q0)).drew (w.heap.size+1+1) _ _ _):=((((U6.out.far _ _ (by show w.heap.size+1+1 ≠ w.heap.size+1;omega)).far _ _ (by show w.heap.size+1+1 ≠ w.heap.size+1;omega)).far _ _ (by show w.heap.size+1+1 ≠ w.heap.size+1;omega)).fill _ _ _).step (Below.refl _ _).drew
 have B7:Hid (Bl w ((((((u.setCell ⟨w.heap.size+1,0,none⟩ (vU p2)).setCell ⟨w.heap.size+1,1,none⟩ (vU p1)).setCell ⟨w.heap.size+1,2,none⟩ (vU p0)).setCell ⟨w.heap.size+1+1,0,none⟩ (vU q2)).setCell ⟨w.heap.size+1+1,1,none⟩ (vU q1)).setCell ⟨w.heap.size+1+1,2,none⟩ (vU q0)).drew):=((((((B6.out.setCell (Nat.le_add_right _ 1) _).setCell (Nat.le_add_right _ 1) _).setCell (Nat.le_add_right _ 1) _).setCell (Nat.le_add_right _ 2) _).setCell (Nat.le_add_right _ 2) _).setCell (Nat.le_add_right _ 2) _).drew
 generalize ((((((u.setCell ⟨w.heap.size+1,0,none⟩ (vU p2)).setCell ⟨w.heap.size+1,1,none⟩ (vU p1)).setCell ⟨w.heap.size+1,2,none⟩ (vU p0)).setCell ⟨w.heap.size+1+1,0,none⟩ (vU q2)).setCell ⟨w.heap.size+1+1,1,none⟩ (vU q1)).setCell ⟨w.heap.size+1+1,2,none⟩ (vU q0)).drew=z9 at *
 obtain ⟨_,n0,n1,n2,_,_,_⟩:=L7.out
 obtain ⟨_,o0,o1,o2,_,_,_⟩:=U7.out
 exact bodyPost_ret (v:=.tuple #[.agg #[vU p2,vU p1,vU p0],.agg #[vU q2,vU q1,vU q0]]) (by simp [results,Tryz.results112,go_sem,n0,n1,n2,o0,o1,o2]) rfl ⟨rfl,B7.out⟩
theorem aDg {M m:Nat}{E:Int}(hM:M+1<2 ^ 128) (hm:m<18446744073709551616) (w:World):Cb 112 #[vU (m:Int),.bool true,pwV M E false] w (.tuple #[lgV (M * m),lgV ((M+1) * m+(M+1))]):=by
 have T1:=fun W=>fL (M:=M) (b:=m) (by omega) hm W
 have T2:=fun W=>fL (M:=M+1) (b:=m) hM hm W
 have AD:=fun W=>pR (hiW M) (loW M) 0 1 (dB (by omega)) (dY M) ⟨by decide,by decide⟩ ⟨by decide,by decide⟩ W
 rw [(kK hM).1,(kK hM).2] at AD
 have hs:(M+1) * m+(M+1)<2 ^ 192:=by
  have q:(M+1) * (m+1)<2 ^ 128 * 2 ^ 64:=Nat.lt_of_lt_of_le (Nat.mul_lt_mul_of_pos_right (show (M+1)<2 ^ 128 by omega) (Nat.succ_pos m)) (Nat.mul_le_mul_left _ hm)
  rw [Nat.mul_add,Nat.mul_one] at q
  exact q
 have PL:=fun W=>aBD (X:=(M+1) * m) (D:=(M+1)) (by omega) hs W
 clear hs
 unfold lgV at *
 unfold pwV
 generalize x2 (M * m)=p2 at *
 generalize x1 (M * m)=p1 at *
 generalize x0 (M * m)=p0 at *
 generalize x2 ((M+1) * m)=q2 at *
 generalize x1 ((M+1) * m)=q1 at *
 generalize x0 ((M+1) * m)=q0 at *
 generalize hiW (M+1)=h2 at *
 generalize loW (M+1)=l2 at *
 generalize sOv (hiW M) (loW M) 0 1=ov at *
 generalize x2 ((M+1) * m+(M+1))=r2 at *
 generalize x1 ((M+1) * m+(M+1))=r1 at *
 generalize x0 ((M+1) * m+(M+1))=r0 at *
 generalize hiW M=h at *
 generalize loW M=l at *
 clear hM hm
 have P0:Hid (FlB ((((w.alloc (.cells #[vU h,vU l,vI E,.bool false] 193)).alloc (.cells #[vU 0,vU 0,vU 0] 197)).alloc (.cells #[vU 0,vU 0,vU 0] 197)).alloc (.cells #[vU h,vU l] 191)) w.heap.size _ _ _ _):=(((FlB.new w (vU h) (vU l) (vI E) (.bool false) 193).al _).al _).al _
 have L0:Hid (GrB ((((w.alloc (.cells #[vU h,vU l,vI E,.bool false] 193)).alloc (.cells #[vU 0,vU 0,vU 0] 197)).alloc (.cells #[vU 0,vU 0,vU 0] 197)).alloc (.cells #[vU h,vU l] 191)) (w.heap.size+1) (vU 0) (vU 0) (vU 0)):=by
  have q:=((GrB.new (w.alloc (.cells #[vU h,vU l,vI E,.bool false] 193)) (vU 0) (vU 0) (vU 0) 197).al (.cells #[vU 0,vU 0,vU 0] 197)).al (.cells #[vU h,vU l] 191)
  show GrB _ _ _ _ _
  simpa using q
 have U0:Hid (GrB ((((w.alloc (.cells #[vU h,vU l,vI E,.bool false] 193)).alloc (.cells #[vU 0,vU 0,vU 0] 197)).alloc (.cells #[vU 0,vU 0,vU 0] 197)).alloc (.cells #[vU h,vU l] 191)) (w.heap.size+1+1) (vU 0) (vU 0) (vU 0)):=by
  have q:=(GrB.new ((w.alloc (.cells #[vU h,vU l,vI E,.bool false] 193)).alloc (.cells #[vU 0,vU 0,vU 0] 197)) (vU 0) (vU 0) (vU 0) 197).al (.cells #[vU h,vU l] 191)
  show GrB _ _ _ _ _
  simpa using q
 have D0:Hid (TwB ((((w.alloc (.cells #[vU h,vU l,vI E,.bool false] 193)).alloc (.cells #[vU 0,vU 0,vU 0] 197)).alloc (.cells #[vU 0,vU 0,vU 0] 197)).alloc (.cells #[vU h,vU l] 191)) (w.heap.size+1+1+1) (vU h) (vU l)):=by
  have q:=TwB.new (((w.alloc (.cells #[vU h,vU l,vI E,.bool false] 193)).alloc (.cells #[vU 0,vU 0,vU 0] 197)).alloc (.cells #[vU 0,vU 0,vU 0] 197)) (vU h) (vU l) 191
  show TwB _ _ _ _
  simpa using q
 have B0:Hid (Bl w ((((w.alloc (.cells #[vU h,vU l,vI E,.bool false] 193)).alloc (.cells #[vU 0,vU 0,vU 0] 197)).alloc (.cells #[vU 0,vU 0,vU 0] 197)).alloc (.cells #[vU h,vU l] 191))):=(((bz _ _).alloc (by simp) _).alloc (by simp;omega) _).alloc (by simp;omega) _
 go_enter Tryz.func112,Tryz.ntmps112
 go_wp2_with fail
 refine (AD _).mono ?_
 rintro e v1 ⟨rfl,hb⟩
 have P1:Hid (FlB v1 w.heap.size _ _ _ _):=P0.out.step hb
 have L1:Hid (GrB v1 (w.heap.size+1) _ _ _):=L0.out.step hb
 have U1:Hid (GrB v1 (w.heap.size+1+1) _ _ _):=U0.out.step hb
 have D1:Hid (TwB v1 (w.heap.size+1+1+1) _ _):=D0.out.step hb
 have B1:Hid (Bl w v1):=B0.out.trans (hb.mono B0.out.size)
 clear hb P0 L0 U0 D0 B0 AD
 obtain ⟨_,d0,d1,e0,e1⟩:=D1.out
 go_upto_region 4 with fail
 have P0:Hid (FlB ((v1.setCell ⟨w.heap.size+1+1+1,0,none⟩ (vU h2)).setCell ⟨w.heap.size+1+1+1,1,none⟩ (vU l2)) w.heap.size _ _ _ _):=(P1.out.far _ _ (by show w.heap.size ≠ w.heap.size+1+1+1;omega)).far _ _ (by show w.heap.size ≠ w.heap.size+1+1+1;omega)
 have L0:Hid (GrB ((v1.setCell ⟨w.heap.size+1+1+1,0,none⟩ (vU h2)).setCell ⟨w.heap.size+1+1+1,1,none⟩ (vU l2)) (w.heap.size+1) _ _ _):=(L1.out.far _ _ (by show w.heap.size+1 ≠ w.heap.size+1+1+1;omega)).far _ _ (by show w.heap.size+1 ≠ w.heap.size+1+1+1;omega)
 have U0:Hid (GrB ((v1.setCell ⟨w.heap.size+1+1+1,0,none⟩ (vU h2)).setCell ⟨w.heap.size+1+1+1,1,none⟩ (vU l2)) (w.heap.size+1+1) _ _ _):=(U1.out.far _ _ (by show w.heap.size+1+1 ≠ w.heap.size+1+1+1;omega)).far _ _ (by show w.heap.size+1+1 ≠ w.heap.size+1+1+1;omega)
 have D0:Hid (TwB ((v1.setCell ⟨w.heap.size+1+1+1,0,none⟩ (vU h2)).setCell ⟨w.heap.size+1+1+1,1,none⟩ (vU l2)) (w.heap.size+1+1+1) _ _):=D1.out.fill _ _
 have B0:Hid (Bl w ((v1.setCell ⟨w.heap.size+1+1+1,0,none⟩ (vU h2)).setCell ⟨w.heap.size+1+1+1,1,none⟩ (vU l2))):=(B1.out.setCell (Nat.le_add_right _ 3) _).setCell (Nat.le_add_right _ 3) _
 clear P1 L1 U1 D1 B1 d0 d1 e0 e1
 generalize (v1.setCell ⟨w.heap.size+1+1+1,0,none⟩ (vU h2)).setCell ⟨w.heap.size+1+1+1,1,none⟩ (vU l2)=v at *
 have P2:Hid (FlB v.drew w.heap.size _ _ _ _):=P0.out.drew
 have L2:Hid (GrB v.drew (w.heap.size+1) _ _ _):=L0.out.step (Below.refl _ _).drew
 have U2:Hid (GrB v.drew (w.heap.size+1+1) _ _ _):=U0.out.step (Below.refl _ _).drew
 have D2:Hid (TwB v.drew (w.heap.size+1+1+1) _ _):=D0.out.step (Below.refl _ _).drew
 have B2:Hid (Bl w v.drew):=B0.out.drew
 obtain ⟨y1,a0,a1,a2,a3,_,_,_,_⟩:=P0.out
 obtain ⟨y2,_,_,_,f0,f1,f2⟩:=L0.out
 obtain ⟨y3,_,_,_,g0,g1,g2⟩:=U0.out
 obtain ⟨y4,d0,d1,_,_⟩:=D0.out
 go_region_held3 (fun w'=>w'.cell? ⟨w.heap.size,0,none⟩=some (vU h)/\w'.cell? ⟨w.heap.size,1,none⟩=some (vU l)/\w'.cell? ⟨w.heap.size+1+1+1,0,none⟩=some (vU h2)/\w'.cell? ⟨w.heap.size+1+1+1,1,none⟩=some (vU l2)/\w'.frozen? ⟨w.heap.size+1,0,none⟩=false/\w'.frozen? ⟨w.heap.size+1,1,none⟩=false/\w'.frozen? ⟨w.heap.size+1,2,none⟩=false/\w'.frozen? ⟨w.heap.size+1+1,0,none⟩=false/\w'.frozen? ⟨w.heap.size+1+1,1,none⟩=false/\w'.frozen? ⟨w.heap.size+1+1,2,none⟩=false) (simp [*,go_sem])
  (first
   | (go_at_call_of 150 (Value.agg #[vU h,vU l]);refine (T1 _).mono ?_;rintro x1 wa ⟨rfl,ha⟩;have Pa:Hid (FlB wa _ _ _ _ _):=P2.out.step ha;have La:Hid (GrB wa _ _ _ _):=L2.out.step ha;have Ua:Hid (GrB wa _ _ _ _):=U2.out.step ha;have Da:Hid (TwB wa _ _ _):=D2.out.step ha;have Ba:Hid (Bl w wa):=B2.out.trans (ha.mono B2.out.size);obtain ⟨ya1,aa0,aa1,aa2,aa3,_,_,_,_⟩:=Pa.out;obtain ⟨ya2,_,_,_,fa0,fa1,fa2⟩:=La.out;obtain ⟨ya3,_,_,_,ga0,ga1,ga2⟩:=Ua.out;obtain ⟨ya4,da0,da1,_,_⟩:=Da.out)
   | (go_at_call_of 150 (Value.agg #[vU h2,vU l2]);refine (T2 _).mono ?_;rintro x1 wb ⟨rfl,hb⟩;have Pb:Hid (FlB wb _ _ _ _ _):=Pa.out.step hb;have Lb:Hid (GrB wb _ _ _ _):=La.out.step hb;have Ub:Hid (GrB wb _ _ _ _):=Ua.out.step hb;have Db:Hid (TwB wb _ _ _):=Da.out.step hb;have Bb:Hid (Bl w wb):=Ba.out.trans (hb.mono Ba.out.size);obtain ⟨yb1,ab0,ab1,ab2,ab3,_,_,_,_⟩:=Pb.out;obtain ⟨yb2,_,_,_,fb0,fb1,fb2⟩:=Lb.out;obtain ⟨yb3,_,_,_,gb0,gb1,gb2⟩:=Ub.out;obtain ⟨yb4,db0,db1,_,_⟩:=Db.out))
 have L4:Hid (GrB ((((((wb.setCell ⟨w.heap.size+1,0,none⟩ (vU p2)).setCell ⟨w.heap.size+1,1,none⟩ (vU p1)).setCell ⟨w.heap.size+1,2,none⟩ (vU p0)).setCell ⟨w.heap.size+1+1,0,none⟩ (vU q2)).setCell ⟨w.heap.size+1+1,1,none⟩ (vU q1)).setCell ⟨w.heap.size+1+1,2,none⟩ (vU q0)) (w.heap.size+1) _ _ _):=(((Lb.out.fill _ _ _).far _ _ (by show w.heap.size+1 ≠ w.heap.size+1+1;omega)).far _ _ (by show w.heap.size+1 ≠ w.heap.size+1+1;omega)).far _ _ (by show w.heap.size+1 ≠ w.heap.size+1+1;omega)
 have U4:Hid (GrB ((((((wb.setCell ⟨w.heap.size+1,0,none⟩ (vU p2)).setCell ⟨w.heap.size+1,1,none⟩ (vU p1)).setCell ⟨w.heap.size+1,2,none⟩ (vU p0)).setCell ⟨w.heap.size+1+1,0,none⟩ (vU q2)).setCell ⟨w.heap.size+1+1,1,none⟩ (vU q1)).setCell ⟨w.heap.size+1+1,2,none⟩ (vU q0)) (w.heap.size+1+1) _ _ _):=(((Ub.out.far _ _ (by show w.heap.size+1+1 ≠ w.heap.size+1;omega)).far _ _ (by show w.heap.size+1+1 ≠ w.heap.size+1;omega)).far _ _ (by show w.heap.size+1+1 ≠ w.heap.size+1;omega)).fill _ _ _
 have D4:Hid (TwB ((((((wb.setCell ⟨w.heap.size+1,0,none⟩ (vU p2)).setCell ⟨w.heap.size+1,1,none⟩ (vU p1)).setCell ⟨w.heap.size+1,2,none⟩ (vU p0)).setCell ⟨w.heap.size+1+1,0,none⟩ (vU q2)).setCell ⟨w.heap.size+1+1,1,none⟩ (vU q1)).setCell ⟨w.heap.size+1+1,2,none⟩ (vU q0)) (w.heap.size+1+1+1) _ _):=(((((Db.out.far _ _ (by show w.heap.size+1+1+1 ≠ w.heap.size+1;omega)).far _ _ (by show w.heap.size+1+1+1 ≠ w.heap.size+1;omega)).far _ _ (by show w.heap.size+1+1+1 ≠ w.heap.size+1;omega)).far _ _ (by show w.heap.size+1+1+1 ≠ w.heap.size+1+1;omega)).far _ _ (by show w.heap.size+1+1+1 ≠ w.heap.size+1+1;omega)).far _ _ (by show w.heap.size+1+1+1 ≠ w.heap.size+1+1;omega)
 have B4:Hid (Bl w ((((((wb.setCell ⟨w.heap.size+1,0,none⟩ (vU p2)).setCell ⟨w.heap.size+1,1,none⟩ (vU p1)).setCell ⟨w.heap.size+1,2,none⟩ (vU p0)).setCell ⟨w.heap.size+1+1,0,none⟩ (vU q2)).setCell ⟨w.heap.size+1+1,1,none⟩ (vU q1)).setCell ⟨w.heap.size+1+1,2,none⟩ (vU q0))):=(((((Bb.out.setCell (Nat.le_add_right _ 1) _).setCell (Nat.le_add_right _ 1) _).setCell (Nat.le_add_right _ 1) _).setCell (Nat.le_add_right _ 2) _).setCell (Nat.le_add_right _ 2) _).setCell (Nat.le_add_right _ 2) _
 generalize (((((wb.setCell ⟨w.heap.size+1,0,none⟩ (vU p2)).setCell ⟨w.heap.size+1,1,none⟩ (vU p1)).setCell ⟨w.heap.size+1,2,none⟩ (vU p0)).setCell ⟨w.heap.size+1+1,0,none⟩ (vU q2)).setCell ⟨w.heap.size+1+1,1,none⟩ (vU q1)).setCell ⟨w.heap.size+1+1,2,none⟩ (vU q0)=u at *
 clear P0 L0 U0 D0 B0 P2 L2 U2 D2 B2 Pa La Ua Da Ba Pb Lb Ub Db Bb ha hb T1
 clear y1 a0 a1 a2 a3 y2 f0 f1 f2 y3 g0 g1 g2 y4 d0 d1 ya1 aa0 aa1 aa2 aa3 ya2 fa0 fa1 fa2 ya3 ga0 ga1 ga2 ya4 da0 da1 yb1 ab0 ab1 ab2 ab3 yb2 fb0 fb1 fb2 yb3 gb0 gb1 gb2 yb4 db0 db1
 obtain ⟨_,u0,u1,u2,k0,k1,k2⟩:=U4.out
 obtain ⟨_,d0,d1,_,_⟩:=D4.out
 go_wp2_with fail
 refine (PL _).mono ?_
 rintro e z ⟨rfl,hz⟩
 have L5:Hid (GrB z (w.heap.size+1) _ _ _):=L4.out.step hz
 have U5:Hid (GrB z (w.heap.size+1+1) _ _ _):=U4.out.step hz
 have B5:Hid (Bl w z):=B4.out.trans (hz.mono B4.out.size)
 clear L4 U4 D4 B4 u0 u1 u2 k0 k1 k2 d0 d1 hz PL
 obtain ⟨_,u0,u1,u2,k0,k1,k2⟩:=U5.out
 go_upto_region 7 with fail
 have L6:Hid (GrB (((z.setCell ⟨w.heap.size+1+1,0,none⟩ (vU r2)).setCell ⟨w.heap.size+1+1,1,none⟩ (vU r1)).setCell ⟨w.heap.size+1+1,2,none⟩ (vU r0)) (w.heap.size+1) _ _ _):=((L5.out.far _ _ (by show w.heap.size+1 ≠ w.heap.size+1+1;omega)).far _ _ (by show w.heap.size+1 ≠ w.heap.size+1+1;omega)).far _ _ (by show w.heap.size+1 ≠ w.heap.size+1+1;omega)
 have U6:Hid (GrB (((z.setCell ⟨w.heap.size+1+1,0,none⟩ (vU r2)).setCell ⟨w.heap.size+1+1,1,none⟩ (vU r1)).setCell ⟨w.heap.size+1+1,2,none⟩ (vU r0)) (w.heap.size+1+1) _ _ _):=U5.out.fill _ _ _
 have B6:Hid (Bl w (((z.setCell ⟨w.heap.size+1+1,0,none⟩ (vU r2)).setCell ⟨w.heap.size+1+1,1,none⟩ (vU r1)).setCell ⟨w.heap.size+1+1,2,none⟩ (vU r0))):=((B5.out.setCell (Nat.le_add_right _ 2) _).setCell (Nat.le_add_right _ 2) _).setCell (Nat.le_add_right _ 2) _
 generalize ((z.setCell ⟨w.heap.size+1+1,0,none⟩ (vU r2)).setCell ⟨w.heap.size+1+1,1,none⟩ (vU r1)).setCell ⟨w.heap.size+1+1,2,none⟩ (vU r0)=u' at *
 clear L5 U5 B5 u0 u1 u2 k0 k1 k2
 obtain ⟨_,l0,l1,l2',j0,j1,j2⟩:=L6.out
 obtain ⟨_,u0,u1,u2,k0,k1,k2⟩:=U6.out
 go_region_held3 (fun w'=>w'.cell? ⟨w.heap.size+1,0,none⟩=some (vU p2)/\w'.cell? ⟨w.heap.size+1,1,none⟩=some (vU p1)/\w'.cell? ⟨w.heap.size+1,2,none⟩=some (vU p0)/\w'.cell? ⟨w.heap.size+1+1,0,none⟩=some (vU r2)/\w'.cell? ⟨w.heap.size+1+1,1,none⟩=some (vU r1)/\w'.cell? ⟨w.heap.size+1+1,2,none⟩=some (vU r0)/\w'.frozen? ⟨w.heap.size+1,0,none⟩=false/\w'.frozen? ⟨w.heap.size+1,1,none⟩=false/\w'.frozen? ⟨w.heap.size+1,2,none⟩=false/\w'.frozen? ⟨w.heap.size+1+1,0,none⟩=false/\w'.frozen? ⟨w.heap.size+1+1,1,none⟩=false/\w'.frozen? ⟨w.heap.size+1+1,2,none⟩=false) (simp [*,go_sem,World.cell?_setCell_same,World.cell?_setCell_other]) (fail)
 go_wp2
 have L7:Hid (GrB ((((((u'.setCell ⟨w.heap.size+1,0,none⟩ (vU p2)).setCell ⟨w.heap.size+1,1,none⟩ (vU p1)).setCell ⟨w.heap.size+1,2,none⟩ (vU p0)).setCell ⟨w.heap.size+1+1,0,none⟩ (vU r2)).setCell ⟨w.heap.size+1+1,1,none⟩ (vU r1)).setCell ⟨w.heap.size+1+1,2,none⟩ (vU r0)).drew (w.heap.size+1) _ _ _):=((((L6.out.fill _ _ _).far _ _ (by show w.heap.size+1 ≠ w.heap.size+1+1;omega)).far _ _ (by show w.heap.size+1 ≠ w.heap.size+1+1;omega)).far _ _ (by show w.heap.size+1 ≠ w.heap.size+1+1;omega)).step (Below.refl _ _).drew
 have U7:Hid (GrB ((((((u'.setCell ⟨w.heap.size+1,0,none⟩ (vU p2)).setCell ⟨w.heap.size+1,1,none⟩ (vU p1)).setCell ⟨w.heap.size+1,2,none⟩ (vU p0)).setCell ⟨w.heap.size+1+1,0,none⟩ (vU r2)).setCell ⟨w.heap.size+1+1,1,none⟩ (vU r1)).setCell ⟨w.heap.size+1+1,2,none⟩ (vU r0)).drew (w.heap.size+1+1) _ _ _):=((((U6.out.far _ _ (by show w.heap.size+1+1 ≠ w.heap.size+1;omega)).far _ _ (by show w.heap.size+1+1 ≠ w.heap.size+1;omega)).far _ _ (by show w.heap.size+1+1 ≠ w.heap.size+1;omega)).fill _ _ _).step (Below.refl _ _).drew
 have B7:Hid (Bl w ((((((u'.setCell ⟨w.heap.size+1,0,none⟩ (vU p2)).setCell ⟨w.heap.size+1,1,none⟩ (vU p1)).setCell ⟨w.heap.size+1,2,none⟩ (vU p0)).setCell ⟨w.heap.size+1+1,0,none⟩ (vU r2)).setCell ⟨w.heap.size+1+1,1,none⟩ (vU r1)).setCell ⟨w.heap.size+1+1,2,none⟩ (vU r0)).drew):=((((((B6.out.setCell (Nat.le_add_right _ 1) _).setCell (Nat.le_add_right _ 1) _).setCell (Nat.le_add_right _ 1) _).setCell (Nat.le_add_right _ 2) _).setCell (Nat.le_add_right _ 2) _).setCell (Nat.le_add_right _ 2) _).drew
 generalize ((((((u'.setCell ⟨w.heap.size+1,0,none⟩ (vU p2)).setCell ⟨w.heap.size+1,1,none⟩ (vU p1)).setCell ⟨w.heap.size+1,2,none⟩ (vU p0)).setCell ⟨w.heap.size+1+1,0,none⟩ (vU r2)).setCell ⟨w.heap.size+1+1,1,none⟩ (vU r1)).setCell ⟨w.heap.size+1+1,2,none⟩ (vU r0)).drew=z9 at *
 obtain ⟨_,n0,n1,n2,_,_,_⟩:=L7.out
 obtain ⟨_,o0,o1,o2,_,_,_⟩:=U7.out
 exact bodyPost_ret (v:=.tuple #[.agg #[vU p2,vU p1,vU p0],.agg #[vU r2,vU r1,vU r0]]) (by simp [results,Tryz.results112,go_sem,n0,n1,n2,o0,o1,o2]) rfl ⟨rfl,B7.out⟩
theorem aCi (w:World):Cb 102 #[vI 32] w (.tuple #[.agg #[vI 32,vI 24,vI (-149)],.nilIface]):=by
 have HM:=fun W=>xC W
 have HL:=fun W=>tP W
 have U1:∀ W,Cb 139 #[vU 2139095039,vI 32] W (.tuple #[.agg #[.bool false,vI 2,vU 16777215,vI (104)],.nilIface]):=fun W=>by
  have h:=nI (b:=2139095039) (by decide) W
  rw [show uN 2147483648 2139095040 2139095039=false by decide +kernel,show mg 2147483648 2139095039=2139095039 by decide +kernel,show cl 2139095040 2139095039=2 by decide +kernel,show uM 2139095040 23 2139095039=16777215 by decide +kernel,show uE 2139095040 23 (-149) 2139095039=104 by decide +kernel,show ((2139095039:Nat):Int)=2139095039 from rfl,show ((16777215:Nat):Int)=16777215 from rfl] at h
  exact h
 have U2:∀ W,Cb 139 #[vU 1,vI 32] W (.tuple #[.agg #[.bool false,vI 2,vU 1,vI (-149)],.nilIface]):=fun W=>by
  have h:=nI (b:=1) (by decide) W
  rw [show uN 2147483648 2139095040 1=false by decide +kernel,show mg 2147483648 1=1 by decide +kernel,show cl 2139095040 1=2 by decide +kernel,show uM 2139095040 23 1=1 by decide +kernel,show uE 2139095040 23 (-149) 1 = -149 by decide +kernel,show ((1:Nat):Int)=1 from rfl] at h
  exact h
 have HN:∀ W,Cs 140 #[vU 16777215] W (vI 24):=fun W=>by
  have h:=aO 16777215 ⟨by decide,by decide⟩ W
  rw [show aM 16777215=24 by decide +kernel] at h
  exact h
 go_enter Tryz.func102,Tryz.ntmps102
 go_wp2_with fail
 refine (HM _).mono ?_
 rintro e w1 ⟨rfl,hb⟩
 have T1:Hid (GrB w1 w.heap.size _ _ _):=(GrB.new w (vI 0) (vI 0) (vI 0) 175).step hb
 have B1:Hid (Bl w w1):=(bz _ _).trans (hb.mono (by simp))
 clear hb
 go_wp2_with fail
 refine (HL _).mono ?_
 rintro e w2 ⟨rfl,hb⟩
 have T2:Hid (GrB w2 w.heap.size _ _ _):=T1.out.step hb
 have B2:Hid (Bl w w2):=B1.out.trans (hb.mono B1.out.size)
 clear hb T1 B1
 go_wp2_with fail
 refine (U1 _).mono ?_
 rintro e w3 ⟨rfl,hb⟩
 have T3:Hid (GrB w3 w.heap.size _ _ _):=T2.out.step hb
 have B3:Hid (Bl w w3):=B2.out.trans (hb.mono B2.out.size)
 have s3:w.heap.size<w3.heap.size:=T3.out.lt
 clear hb T2 B2
 go_wp2_with fail
 refine (U2 _).mono ?_
 rintro e w4 ⟨rfl,hb⟩
 have T4:Hid (GrB w4 w.heap.size _ _ _):=(T3.out.al _).step hb
 have X4:Hid (FlB w4 w3.heap.size _ _ _ _):=(FlB.new w3 _ _ _ _ _).step hb
 have B4:Hid (Bl w w4):=(B3.out.alloc B3.out.size _).trans (hb.mono (by have:=B3.out.size;simp;omega))
 clear hb T3 B3
 have T5:Hid (GrB (w4.alloc (.cells #[.bool false,vI 2,vU 1,vI (-149)] 226)) w.heap.size _ _ _):=T4.out.al _
 have X5:Hid (FlB (w4.alloc (.cells #[.bool false,vI 2,vU 1,vI (-149)] 226)) w3.heap.size _ _ _ _):=X4.out.al _
 have Y5:Hid (FlB (w4.alloc (.cells #[.bool false,vI 2,vU 1,vI (-149)] 226)) w4.heap.size _ _ _ _):=FlB.new w4 _ _ _ _ _
 have B5:Hid (Bl w (w4.alloc (.cells #[.bool false,vI 2,vU 1,vI (-149)] 226))):=B4.out.alloc B4.out.size _
 have s5:Hid (w.heap.size<w3.heap.size/\w.heap.size<w4.heap.size):=⟨s3,Nat.lt_of_lt_of_le T4.out.lt (Nat.le_refl _)⟩
 clear T4 X4 B4
 go_upto_region 7 with fail
 generalize w4.alloc (.cells #[.bool false,vI 2,vU 1,vI (-149)] 226)=v at *
 obtain ⟨s6,s7⟩:=s5.out
 have n3:w3.heap.size ≠ w.heap.size:=by omega
 have n4:w4.heap.size ≠ w.heap.size:=by omega
 obtain ⟨_,t0,t1,t2,g0,g1,g2⟩:=T5.out
 obtain ⟨_,_,_,x2,_,_,_,_,_⟩:=X5.out
 obtain ⟨_,_,_,_,y3,_,_,_,_⟩:=Y5.out
 go_region_held3 (fun w'=>w'.cell? ⟨w3.heap.size,2,none⟩=some (vU 16777215)/\w'.cell? ⟨w4.heap.size,3,none⟩=some (vI (-149))/\w'.frozen? ⟨w.heap.size,0,none⟩=false/\w'.frozen? ⟨w.heap.size,1,none⟩=false/\w'.frozen? ⟨w.heap.size,2,none⟩=false) (simp [*,go_sem])
  (first
   | (go_at_call 140;refine (HN _).mono ?_;rintro x1 w2 ⟨rfl,hh⟩;subst hh))
 go_wp2
 exact bodyPost_ret (v:=.tuple #[.agg #[vI 32,vI 24,vI (-149)],.nilIface]) (by simp [results,Tryz.results102,go_sem,World.cell?_setCell_same,World.cell?_setCell_other, *]) rfl ⟨rfl,((B5.out.drew.setCell (Nat.le_refl _) _).setCell (Nat.le_refl _) _).setCell (Nat.le_refl _) _⟩
theorem aCj (w:World):Cb 102 #[vI 64] w (.tuple #[.agg #[vI 64,vI 53,vI (-1074)],.nilIface]):=by
 have HM:=fun W=>xD W
 have HL:=fun W=>tQ W
 have U1:∀ W,Cb 139 #[vU 9218868437227405311,vI 64] W (.tuple #[.agg #[.bool false,vI 2,vU 9007199254740991,vI (971)],.nilIface]):=fun W=>by
  have h:=nJ (b:=9218868437227405311) (by decide) W
  rw [show uN 9223372036854775808 9218868437227405312 9218868437227405311=false by decide +kernel,show mg 9223372036854775808 9218868437227405311=9218868437227405311 by decide +kernel,show cl 9218868437227405312 9218868437227405311=2 by decide +kernel,show uM 9218868437227405312 52 9218868437227405311=9007199254740991 by decide +kernel,show uE 9218868437227405312 52 (-1074) 9218868437227405311=971 by decide +kernel,show ((9218868437227405311:Nat):Int)=9218868437227405311 from rfl,show ((9007199254740991:Nat):Int)=9007199254740991 from rfl] at h
  exact h
 have U2:∀ W,Cb 139 #[vU 1,vI 64] W (.tuple #[.agg #[.bool false,vI 2,vU 1,vI (-1074)],.nilIface]):=fun W=>by
  have h:=nJ (b:=1) (by decide) W
  rw [show uN 9223372036854775808 9218868437227405312 1=false by decide +kernel,show mg 9223372036854775808 1=1 by decide +kernel,show cl 9218868437227405312 1=2 by decide +kernel,show uM 9218868437227405312 52 1=1 by decide +kernel,show uE 9218868437227405312 52 (-1074) 1 = -1074 by decide +kernel,show ((1:Nat):Int)=1 from rfl] at h
  exact h
 have HN:∀ W,Cs 140 #[vU 9007199254740991] W (vI 53):=fun W=>by
  have h:=aO 9007199254740991 ⟨by decide,by decide⟩ W
  rw [show aM 9007199254740991=53 by decide +kernel] at h
  exact h
 go_enter Tryz.func102,Tryz.ntmps102
 go_wp2_with fail
 refine (HM _).mono ?_
 rintro e w1 ⟨rfl,hb⟩
 have T1:Hid (GrB w1 w.heap.size _ _ _):=(GrB.new w (vI 0) (vI 0) (vI 0) 175).step hb
 have B1:Hid (Bl w w1):=(bz _ _).trans (hb.mono (by simp))
 clear hb
 go_wp2_with fail
 refine (HL _).mono ?_
 rintro e w2 ⟨rfl,hb⟩
 have T2:Hid (GrB w2 w.heap.size _ _ _):=T1.out.step hb
 have B2:Hid (Bl w w2):=B1.out.trans (hb.mono B1.out.size)
 clear hb T1 B1
 go_wp2_with fail
 refine (U1 _).mono ?_
 rintro e w3 ⟨rfl,hb⟩
 have T3:Hid (GrB w3 w.heap.size _ _ _):=T2.out.step hb
 have B3:Hid (Bl w w3):=B2.out.trans (hb.mono B2.out.size)
 have s3:w.heap.size<w3.heap.size:=T3.out.lt
 clear hb T2 B2
 go_wp2_with fail
 refine (U2 _).mono ?_
 rintro e w4 ⟨rfl,hb⟩
 have T4:Hid (GrB w4 w.heap.size _ _ _):=(T3.out.al _).step hb
 have X4:Hid (FlB w4 w3.heap.size _ _ _ _):=(FlB.new w3 _ _ _ _ _).step hb
 have B4:Hid (Bl w w4):=(B3.out.alloc B3.out.size _).trans (hb.mono (by have:=B3.out.size;simp;omega))
 clear hb T3 B3
 have T5:Hid (GrB (w4.alloc (.cells #[.bool false,vI 2,vU 1,vI (-1074)] 226)) w.heap.size _ _ _):=T4.out.al _
 have X5:Hid (FlB (w4.alloc (.cells #[.bool false,vI 2,vU 1,vI (-1074)] 226)) w3.heap.size _ _ _ _):=X4.out.al _
 have Y5:Hid (FlB (w4.alloc (.cells #[.bool false,vI 2,vU 1,vI (-1074)] 226)) w4.heap.size _ _ _ _):=FlB.new w4 _ _ _ _ _
 have B5:Hid (Bl w (w4.alloc (.cells #[.bool false,vI 2,vU 1,vI (-1074)] 226))):=B4.out.alloc B4.out.size _
 have s5:Hid (w.heap.size<w3.heap.size/\w.heap.size<w4.heap.size):=⟨s3,Nat.lt_of_lt_of_le T4.out.lt (Nat.le_refl _)⟩
 clear T4 X4 B4
 go_upto_region 7 with fail
 generalize w4.alloc (.cells #[.bool false,vI 2,vU 1,vI (-1074)] 226)=v at *
 obtain ⟨s6,s7⟩:=s5.out
 have n3:w3.heap.size ≠ w.heap.size:=by omega
 have n4:w4.heap.size ≠ w.heap.size:=by omega
 obtain ⟨_,t0,t1,t2,g0,g1,g2⟩:=T5.out
 obtain ⟨_,_,_,x2,_,_,_,_,_⟩:=X5.out
 obtain ⟨_,_,_,_,y3,_,_,_,_⟩:=Y5.out
 go_region_held3 (fun w'=>w'.cell? ⟨w3.heap.size,2,none⟩=some (vU 9007199254740991)/\w'.cell? ⟨w4.heap.size,3,none⟩=some (vI (-1074))/\w'.frozen? ⟨w.heap.size,0,none⟩=false/\w'.frozen? ⟨w.heap.size,1,none⟩=false/\w'.frozen? ⟨w.heap.size,2,none⟩=false) (simp [*,go_sem])
  (first
   | (go_at_call 140;refine (HN _).mono ?_;rintro x1 w2 ⟨rfl,hh⟩;subst hh))
 go_wp2
 exact bodyPost_ret (v:=.tuple #[.agg #[vI 64,vI 53,vI (-1074)],.nilIface]) (by simp [results,Tryz.results102,go_sem,World.cell?_setCell_same,World.cell?_setCell_other, *]) rfl ⟨rfl,((B5.out.drew.setCell (Nat.le_refl _) _).setCell (Nat.le_refl _) _).setCell (Nat.le_refl _) _⟩
theorem aEh {s:Int}{g n f T:Nat}{L:Int}(h:Fz s g n f T L) (w:World):Cb 102 #[vI s] w (.tuple #[.agg #[vI s,vI ((f:Int)+1),vI L],.nilIface]):=by
 rcases h with ⟨rfl,rfl,rfl,rfl,rfl,rfl⟩ | ⟨rfl,rfl,rfl,rfl,rfl,rfl⟩
 . exact aCi w
 . exact aCj w
theorem aCf {m:Nat}(more:Bool) (w:World):Cs 105 #[vU (m:Int),vI 0,.bool more] w (vU (m:Int)):=by
 go_enter Tryz.func105,Tryz.ntmps105
 go_wp2
 go_ret
 exact ⟨rfl,rfl⟩
theorem aD9 {m D:Nat}(hm:m<18446744073709551616) (hD:64<D) (hD2:D<9223372036854775808) (more:Bool) (w:World):Cs 105 #[vU (m:Int),vI (D:Int),.bool more] w (vU 0):=by
 have p1:((D:Int) == 0)=false:=by simp;omega
 have p2:(64:Int)<(D:Int):=by omega
 have p3:¬ (D:Int)<0:=by omega
 go_enter Tryz.func105,Tryz.ntmps105
 go_wp2
 have e:(m:Int) / 2 ^ min D 64=0:=by
  rw [show min D 64=64 from by omega]
  omega
 rw [e]
 go_ret
 exact ⟨rfl,rfl⟩
theorem aCg {m D:Nat}(hm:m<18446744073709551616) (hD:D<=64) (hD0:D ≠ 0) (more:Bool) (w:World):Cb 105 #[vU (m:Int),vI (D:Int),.bool more] w (vU ((dpK m D more:Nat):Int)):=by
 have p1:((D:Int) == 0)=false:=by simp;omega
 have p2:¬ (64:Int)<(D:Int):=by omega
 have p3:¬ (D:Int)<0:=by omega
 have p4:¬ (D:Int) - 1<0:=by omega
 obtain ⟨Z,hZ⟩:∃ Z,Z=dpK m D more:=⟨_,rfl⟩
 rw [<- hZ]
 have HZ:Hid (Z=dpK m D more):=hZ
 clear hZ
 go_enter Tryz.func105,Tryz.ntmps105
 go_wp2
 go_quiet (fail)
 have hu:dpU m D more=decide (2 ^ (D - 1)<m % 2 ^ D \/ (m % 2 ^ D=2 ^ (D - 1)/\(more=true \/ m / 2 ^ D % 2=1))):=by
  unfold dpU
  simp [hD,hD0]
 have hp:2 ^ (D - 1)<18446744073709551616:=Nat.lt_of_le_of_lt (Nat.pow_le_pow_right (by omega) (show D - 1<=63 by omega)) (by decide)
 have e1:(m:Int) / 2 ^ D=((m / 2 ^ D:Nat):Int):=by push_cast;rfl
 have e2:(2:Int) ^ (D - 1)=((2 ^ (D - 1):Nat):Int):=by push_cast;rfl
 have e3:((m / 2 ^ D:Nat):Int) * 2 ^ D=((m / 2 ^ D * 2 ^ D:Nat):Int):=by push_cast;rfl
 have e4:m / 2 ^ D * 2 ^ D+m % 2 ^ D=m:=by rw [Nat.mul_comm];exact Nat.div_add_mod m (2 ^ D)
 have hk:m / 2 ^ D<9223372036854775808:=by
  rw [Nat.div_lt_iff_lt_mul (Nat.two_pow_pos D),show D=D - 1+1 from by omega,Nat.pow_succ]
  have:=Nat.two_pow_pos (D - 1)
  generalize 2 ^ (D - 1)=z at *
  omega
 have hZ:=HZ.out
 clear HZ
 unfold dpK at hZ
 rw [e1,e2,e3]
 generalize m / 2 ^ D * 2 ^ D=P at *
 have w1:IntKind.u64.wrap (P:Int)=(P:Int):=IntWalk.u64_in _ ⟨by omega,by omega⟩
 have w2:IntKind.u64.wrap ((m:Int) - (P:Int))=((m % 2 ^ D:Nat):Int):=by
  rw [show (m:Int) - (P:Int)=((m % 2 ^ D:Nat):Int) from by omega]
  exact IntWalk.u64_in _ ⟨by omega,by omega⟩
 have w3:IntKind.u64.wrap ((2 ^ (D - 1):Nat):Int)=((2 ^ (D - 1):Nat):Int):=by
  generalize 2 ^ (D - 1)=z at *
  exact IntWalk.u64_in _ ⟨by omega,by omega⟩
 rw [w1,w2,w3]
 clear w1 w2 w3 e1 e2 e3 e4 p1 p2 p3 p4 hD hD0
 generalize m % 2 ^ D=R at *
 generalize m / 2 ^ D=k at *
 generalize 2 ^ (D - 1)=H at *
 generalize dpU m D more=U at *
 subst hu
 have q:k % 2=0 \/ k % 2=1:=by omega
 have fin:Bl w (w.drewN nq):=below_drewN (Below.refl _ _) nq
 cases more
 . simp only [Bool.false_eq_true,false_or,decide_eq_true_eq] at hZ
   go_wp2
   all_goals go_ret
   all_goals simp only [beq_iff_eq,beq_eq_false_iff_ne,ne_eq] at *
   all_goals first
    | (refine ⟨congrArg (fun z:Int=>Ending.returned (vU z)) (show (k:Int)+1=(Z:Int) from ?_),fin⟩;split at hZ <;> omega)
    | (refine ⟨congrArg (fun z:Int=>Ending.returned (vU z)) (show (k:Int)=(Z:Int) from ?_),fin⟩;split at hZ <;> omega)
 . simp only [true_or,and_true,decide_eq_true_eq] at hZ
   go_wp2
   all_goals go_ret
   all_goals first
    | (refine ⟨congrArg (fun z:Int=>Ending.returned (vU z)) (show (k:Int)+1=(Z:Int) from ?_),fin⟩;split at hZ <;> omega)
    | (refine ⟨congrArg (fun z:Int=>Ending.returned (vU z)) (show (k:Int)=(Z:Int) from ?_),fin⟩;split at hZ <;> omega)
theorem yO {m D:Nat}(hm:m<18446744073709551616) (hD:D<9223372036854775808) (more:Bool) (w:World):Cb 105 #[vU (m:Int),vI (D:Int),.bool more] w (vU ((dpK m D more:Nat):Int)):=by
 by_cases h0:D=0
 . subst h0
   have e:dpK m 0 more=m:=by unfold dpK dpU;simp
   rw [e]
   exact (aCf more w).mono fun e w' q=>⟨q.1,by rw [q.2];exact Below.refl _ _⟩
 by_cases h1:D<=64
 . exact aCg hm h1 h0 more w
 . have e:dpK m D more=0:=by
    unfold dpK dpU
    rw [if_neg (by simp [h1]),Nat.add_zero]
    exact Nat.div_eq_of_lt (Nat.lt_of_lt_of_le hm (Nat.le_trans (by decide:18446744073709551616<=2 ^ 64) (Nat.pow_le_pow_right (by omega) (by omega))))
   rw [e]
   exact (aD9 hm (by omega) hD more w).mono fun e w' q=>⟨q.1,by rw [q.2];exact Below.refl _ _⟩
end Go.Proofs.YtejgpbhionadbaaGreatDoor
