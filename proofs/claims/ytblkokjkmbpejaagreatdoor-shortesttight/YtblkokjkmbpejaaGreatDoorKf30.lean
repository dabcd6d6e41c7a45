/-
  Holds: VPpO IvR IvQ SoHc SoL SoJ IvS IvV IvW IvX.
-/
import Derived.Test.YtblkokjkmbpejaaGreatDoorRows
import Derived.Laws.Externs
import Derived.WalkKit
import Derived.WalkSpells
import Derived.WalkLawsBesides
import Derived.Lib.Mul64
import Derived.Stop.Asserts
import Derived.RowKitTokens
import Derived.Lib.Strings
import Derived.Lib.BufferWrite
import Derived.Deep.OwnRows
import Derived.Deep.RegionHeld3
import Derived.BigQuiet
import Derived.Lib.ConvBytes
import Derived.Laws.CopyOwn
import Derived.Lib.TrailingZeros
import Derived.Lib.ItoaNum
import Derived.Deep.LoopGhost
import Derived.Deep.AppendLies
import Derived.Deep.DeepCutAuto
import Derived.Test.YtblkokjkmbpejaaGreatDoorKf27
import Derived.Test.YtblkokjkmbpejaaGreatDoorKf29
set_option maxRecDepth 100000
set_option maxHeartbeats 4000000
namespace Go.Proofs.YtblkokjkmbpejaaGreatDoor
open Go.RowKit
theorem dR (x:Nat) (hx:x<18446744073709551616) (w:World) :
 Calls Tryz.prog 39 #[vU (x:Int)] w fun e w'=>∃ v,e=.returned v/\Big.D.NatV w' v x/\Bl w w':=by
 obtain ⟨a,ha⟩:∃ a,a=x % 4294967296:=⟨_,rfl⟩
 obtain ⟨b,hb⟩:∃ b,b=x / 4294967296:=⟨_,rfl⟩
 have e1:(x:Int) % 4294967296=(a:Int):=by omega
 have e2:(x:Int) / 4294967296=(b:Int):=by omega
 have l1:a<4294967296:=by omega
 have l2:b<4294967296:=by omega
 have hx2:x=a+b * 4294967296:=by omega
 clear ha hb
 have S:Big.D.Sl (w.alloc (.cells #[vU (a:Int),vU (b:Int)] 22)) (some ⟨w.heap.size,0,none⟩) 2 2 w.heap.size 0 (fun i=>if i=0 then a else if i=1 then b else 0):=by
  refine ⟨Nat.le_refl _,by unfold maxLen;omega,fun _=>rfl,fun _=>by simp,fun i hi=>?_,fun i=>?_⟩
  . rcases (by omega:i=0 \/ i=1) with rfl | rfl <;> simp
  . show (if i=0 then a else if i=1 then b else 0)<4294967296
    split
    . exact l1
    . split
      . exact l2
      . decide
 have T:=Big.D.trim_any S
 have hV:Big.V (fun i=>if i=0 then a else if i=1 then b else 0) 2=x:=by
  rw [Big.V_succ,Big.V_succ,Big.V_zero,show Big.B ^ 0=1 from rfl,show Big.B ^ 1=4294967296 from rfl]
  simp
  omega
 have N:=S.trimmed
 rw [hV] at N
 have HN:Hid _:=N
 clear N S hV hx2
 go_enter Tryz.func39,Tryz.ntmps39
 go_wp2_with fail
 refine T.mono ?_
 rintro e wa ⟨rfl,rfl⟩
 go_wp2
 go_ret
 exact ⟨_,rfl,HN.out,bz _ _⟩
theorem dX {m:Nat}(hm:m<=18014398509481984):Fits 2 m:=Fits.word (n:=1) (by unfold B;omega)
theorem jO {k:Nat}(h:k<=1075):Fits 200 (5 ^ k):=by
 have a:5 ^ k<=8 ^ k:=Nat.pow_le_pow_left (by omega) k
 rw [show 8=2 ^ 3 from rfl,<- Nat.pow_mul] at a
 exact (aZ (s:=3 * k) (k:=200) (by omega)).le a
theorem aCa {m j:Nat}(h:Kj m 0 j) (m0:0<m) {s:ByteArray}{q:Int}(D:Dx s q (fv m (j:Int))) {w:World}{va:Value}(ha:Big.D.NatV w va m) :
 Cb 38 #[va,vI (j:Int)] w (dcV s q false):=by
 have hj:=h.hj
 have ej:m * 2 ^ j=wh m 0 j:=by unfold wh;rw [Nat.pow_zero,Nat.mul_one]
 have fW:Fits 400 (wh m 0 j):=by rw [<- ej];exact ((dX h.hm).mul (aZ (s:=j) (k:=100) (by omega))).up (by omega)
 have D':Dx s q (fv m ((j:Int) - ((0:Nat):Int))):=by rw [show (j:Int) - ((0:Nat):Int)=(j:Int) by omega];exact D
 have HX:Hid (wh m 0 j ≠ 0/\Fits 400 (wh m 0 j)/\∀ t,Tx (wh m 0 j) t -> t.size<=800/\∀ W,Cb 46 #[.string t,vI (t.size:Int),.bool false] W (.tuple #[dcV s q false,vI 0])):=by
  refine ⟨Nat.ne_of_gt (iM m0 0 j),fW,fun t T=>?_⟩
  obtain ⟨a,b⟩:=h.lens m0 T
  refine ⟨b,fun W=>?_⟩
  have M:=h.rmake m0 D' T W
  rw [show (t.size:Int) - ((0:Nat):Int)=(t.size:Int) by omega] at M
  exact M
 have F0:Hid (Bk (w.alloc (.cells #[.string ⟨#[]⟩,vI 0,.bool false] 24)) w.heap.size [.string ⟨#[]⟩,vI 0,.bool false]/\Bl w (w.alloc (.cells #[.string ⟨#[]⟩,vI 0,.bool false] 24))/\Big.D.NatV (w.alloc (.cells #[.string ⟨#[]⟩,vI 0,.bool false] 24)) va m):=⟨Bk.new3 w _ _ _ _,bz _ _,ha.below (bz _ _)⟩
 have SH:∀ W v,Big.D.NatV W v m -> Calls Tryz.prog 70 #[v,vI (j:Int)] W fun e w'=>∃ v,e=.returned v/\Big.D.NatV w' v (wh m 0 j)/\Bl W w':=fun W v hv=>by
  rw [<- ej]
  exact (nL hv ((dX h.hm).up (by omega)) j (by omega)).mono fun e w' ⟨x,a,b,c⟩=>⟨x,a,b.nat,c⟩
 generalize wh m 0 j=X at *
 clear D D' fW ej h m0 ha
 unfold dcV at *
 go_enter Tryz.func38,Tryz.ntmps38
 go_wp2_with fail
 all_goals first | (exfalso;omega) | skip
 refine (SH _ _ F0.out.2.2).mono ?_
 rintro o w1 ⟨v1,rfl,n1,b1⟩
 have F1:Hid (Bk w1 w.heap.size [.string ⟨#[]⟩,vI 0,.bool false]/\Bl w w1/\Big.D.NatV w1 v1 X):=⟨F0.out.1.step b1,F0.out.2.1.trans (b1.mono F0.out.2.1.size),n1⟩
 clear b1 n1 SH F0
 have DD:=kA F1.out.2.2 HX.out.1 HX.out.2.1
 go_wp2_with fail
 all_goals first | (exfalso;omega) | skip
 refine DD.mono ?_
 rintro o w2 ⟨t,rfl,T,b2⟩
 obtain ⟨ts,MK⟩:=HX.out.2.2 t T
 have F2:Hid (Bk w2 w.heap.size [.string ⟨#[]⟩,vI 0,.bool false]/\Bl w w2):=⟨F1.out.1.step b2,F1.out.2.1.trans (b2.mono F1.out.2.1.size)⟩
 clear b2 T DD F1 HX
 go_wp2_with fail
 refine (MK _).mono ?_
 rintro o w6 ⟨rfl,b6⟩
 have F6:Hid (Bk w6 w.heap.size [.string ⟨#[]⟩,vI 0,.bool false]/\Bl w w6):=⟨F2.out.1.step b6,F2.out.2.trans (b6.mono F2.out.2.size)⟩
 clear b6 MK F2
 have l6:=F6.out.1.lt
 have a0:=F6.out.1.cell 0 _ rfl
 have a1:=F6.out.1.cell 1 _ rfl
 have a2:=F6.out.1.cell 2 _ rfl
 have f0:=F6.out.1.fz 0
 have f1:=F6.out.1.fz 1
 have f2:=F6.out.1.fz 2
 go_wp2
 exact bodyPost_ret (v:=.agg #[.string s,vI q,.bool false]) (by simp [results,Tryz.results38,go_sem,World.cell?_setCell_same,World.cell?_setCell_other, *]) rfl ⟨rfl,(((F6.out.2.setCell (Nat.le_refl _) _).setCell (Nat.le_refl _) _).setCell (Nat.le_refl _) _).alloc (by simpa using F6.out.2.size) _⟩
theorem aB9 {m k:Nat}(h:Kj m k 0) (k0:0<k) (m0:0<m) {s:ByteArray}{q:Int}(D:Dx s q (fv m (-(k:Int)))) {w:World}{va:Value}(ha:Big.D.NatV w va m) :
 Cb 38 #[va,vI (-(k:Int))] w (dcV s q false):=by
 have hk:=h.hk
 have ej:m * 5 ^ k=wh m k 0:=by unfold wh;rw [Nat.pow_zero,Nat.mul_one]
 have fW:Fits 400 (wh m k 0):=by rw [<- ej];exact ((dX h.hm).mul (jO h.hk)).up (by omega)
 have D':Dx s q (fv m (((0:Nat):Int) - (k:Int))):=by rw [show ((0:Nat):Int) - (k:Int) = -(k:Int) by omega];exact D
 have HX:Hid (wh m k 0 ≠ 0/\Fits 400 (wh m k 0)/\∀ t,Tx (wh m k 0) t -> t.size<=800/\∀ W,Cb 46 #[.string t,vI ((t.size:Int) - (k:Int)),.bool false] W (.tuple #[dcV s q false,vI 0])):=by
  refine ⟨Nat.ne_of_gt (iM m0 k 0),fW,fun t T=>?_⟩
  obtain ⟨a,b⟩:=h.lens m0 T
  exact ⟨b,fun W=>h.rmake m0 D' T W⟩
 have F0:Hid (Bk (w.alloc (.cells #[.string ⟨#[]⟩,vI 0,.bool false] 24)) w.heap.size [.string ⟨#[]⟩,vI 0,.bool false]/\Bl w (w.alloc (.cells #[.string ⟨#[]⟩,vI 0,.bool false] 24))/\Big.D.NatV (w.alloc (.cells #[.string ⟨#[]⟩,vI 0,.bool false] 24)) va m):=⟨Bk.new3 w _ _ _ _,bz _ _,ha.below (bz _ _)⟩
 have PW:=fun W=>nK 5 k (by decide) (by decide) (by omega) W
 simp only [Int.cast_ofNat_Int] at PW
 have MU:∀ W v u,Big.D.NatV W v m -> Big.D.NatV W u (5 ^ k) -> Calls Tryz.prog 71 #[v,u] W fun e w'=>∃ v,e=.returned v/\Big.D.NatV w' v (wh m k 0)/\Bl W w':=fun W v u hv hu=>by
  rw [<- ej]
  exact eH hv hu ((dX h.hm).up (by omega)) ((jO h.hk).up (by omega))
 generalize wh m k 0=X at *
 clear D D' fW ej h m0 ha
 generalize 5 ^ k=F at *
 unfold dcV at *
 have kn:¬ 0 <= -(k:Int):=by omega
 go_enter Tryz.func38,Tryz.ntmps38
 go_wp2_with fail
 all_goals first | (exfalso;omega) | skip
 try rw [Int.neg_neg]
 refine (PW _).mono ?_
 rintro o w0 ⟨v0,rfl,n0,b0⟩
 have F00:Hid (Bk w0 w.heap.size [.string ⟨#[]⟩,vI 0,.bool false]/\Bl w w0/\Big.D.NatV w0 va m/\Big.D.NatV w0 v0 F):=⟨F0.out.1.step b0,F0.out.2.1.trans (b0.mono F0.out.2.1.size),F0.out.2.2.below b0,n0⟩
 clear b0 n0 PW F0
 go_wp2_with fail
 all_goals first | (exfalso;omega) | skip
 refine (MU _ _ _ F00.out.2.2.1 F00.out.2.2.2).mono ?_
 rintro o w1 ⟨v1,rfl,n1,b1⟩
 have F1:Hid (Bk w1 w.heap.size [.string ⟨#[]⟩,vI 0,.bool false]/\Bl w w1/\Big.D.NatV w1 v1 X):=⟨F00.out.1.step b1,F00.out.2.1.trans (b1.mono F00.out.2.1.size),n1⟩
 clear b1 n1 MU F00
 have DD:=kA F1.out.2.2 HX.out.1 HX.out.2.1
 go_wp2_with fail
 all_goals first | (exfalso;omega) | skip
 refine DD.mono ?_
 rintro o w2 ⟨t,rfl,T,b2⟩
 obtain ⟨ts,MK⟩:=HX.out.2.2 t T
 have F2:Hid (Bk w2 w.heap.size [.string ⟨#[]⟩,vI 0,.bool false]/\Bl w w2):=⟨F1.out.1.step b2,F1.out.2.1.trans (b2.mono F1.out.2.1.size)⟩
 clear b2 T DD F1 HX
 have e1:(t.size:Int) + -(k:Int)=(t.size:Int) - (k:Int):=by omega
 go_wp2_with fail
 all_goals first | (exfalso;omega) | skip
 refine (MK _).mono ?_
 rintro o w6 ⟨rfl,b6⟩
 have F6:Hid (Bk w6 w.heap.size [.string ⟨#[]⟩,vI 0,.bool false]/\Bl w w6):=⟨F2.out.1.step b6,F2.out.2.trans (b6.mono F2.out.2.size)⟩
 clear b6 MK F2
 have l6:=F6.out.1.lt
 have a0:=F6.out.1.cell 0 _ rfl
 have a1:=F6.out.1.cell 1 _ rfl
 have a2:=F6.out.1.cell 2 _ rfl
 have f0:=F6.out.1.fz 0
 have f1:=F6.out.1.fz 1
 have f2:=F6.out.1.fz 2
 go_wp2
 exact bodyPost_ret (v:=.agg #[.string s,vI q,.bool false]) (by simp [results,Tryz.results38,go_sem,World.cell?_setCell_same,World.cell?_setCell_other, *]) rfl ⟨rfl,(((F6.out.2.setCell (Nat.le_refl _) _).setCell (Nat.le_refl _) _).setCell (Nat.le_refl _) _).alloc (by simpa using F6.out.2.size) _⟩
theorem nC {w:World}{va:Value}(ha:Big.D.NatV w va 0) :
 Cb 69 #[va] w (.string ⟨#[48]⟩):=by
 obtain ⟨ao,n,c,b,o,f,rfl,S,tp,hv⟩:=ha
 obtain rfl:n=0:=by
  apply Nat.eq_zero_of_not_pos
  intro z
  have q:=Big.Top_ge tp z
  have:=Nat.pow_pos (n:=n - 1) Big.B_pos
  omega
 obtain ⟨i0,hi,hz0,hz1,hz2⟩:=info_parts Big.D.info_u64
 have HS:Hid (c<=maxLen):=S.cap
 clear tp hv S
 cases ao
 all_goals
  go_enter Tryz.func69,Tryz.ntmps69
  go_wp2_with fail
  go_loop [3,4,5,6,7,8] (fun sv bv _ _ _ _=>sv=.string ⟨#[]⟩/\bv=.slice none 0 0) (fun _ _ _ _ _ _=>0)
  case atStart=>exact ⟨rfl,rfl⟩
  case round =>
   obtain ⟨rfl,rfl⟩:=hrel
   go_wp2
   go_ret
   exact ⟨rfl,Below.refl _ _⟩
theorem xL {k:Nat}(k0:0<k) (hk:k<=1075) {w:World}{va:Value}(ha:Big.D.NatV w va 0) :
 Cb 38 #[va,vI (-(k:Int))] w (dcV ⟨#[]⟩ 0 false):=by
 have F0:Hid (Bk (w.alloc (.cells #[.string ⟨#[]⟩,vI 0,.bool false] 24)) w.heap.size [.string ⟨#[]⟩,vI 0,.bool false]/\Bl w (w.alloc (.cells #[.string ⟨#[]⟩,vI 0,.bool false] 24))/\Big.D.NatV (w.alloc (.cells #[.string ⟨#[]⟩,vI 0,.bool false] 24)) va 0):=⟨Bk.new3 w _ _ _ _,bz _ _,ha.below (bz _ _)⟩
 have PW:=fun W=>nK 5 k (by decide) (by decide) (by omega) W
 simp only [Int.cast_ofNat_Int] at PW
 have MU:∀ W v u,Big.D.NatV W v 0 -> Big.D.NatV W u (5 ^ k) -> Calls Tryz.prog 71 #[v,u] W fun e w'=>∃ v,e=.returned v/\Big.D.NatV w' v 0/\Bl W w':=fun W v u hv hu=>by
  have q:=eH hv hu ((dX (Nat.zero_le _)).up (by omega)) ((jO hk).up (by omega))
  rw [Nat.zero_mul] at q
  exact q
 have MK:∀ W,Cb 46 #[.string ⟨#[48]⟩,vI (1 - (k:Int)),.bool false] W (.tuple #[dcV ⟨#[]⟩ 0 false,vI 0]):=fun W =>
  tZ (t:=⟨#[48]⟩) (by decide) mC (z:=1) rfl (fun i hi=>by
   have:i=0:=by omega
   subst this
   decide) W
 clear ha
 generalize 5 ^ k=F at *
 unfold dcV at *
 have kn:¬ 0 <= -(k:Int):=by omega
 go_enter Tryz.func38,Tryz.ntmps38
 go_wp2_with fail
 all_goals first | (exfalso;omega) | skip
 try rw [Int.neg_neg]
 refine (PW _).mono ?_
 rintro o w0 ⟨v0,rfl,n0,b0⟩
 have F00:Hid (Bk w0 w.heap.size [.string ⟨#[]⟩,vI 0,.bool false]/\Bl w w0/\Big.D.NatV w0 va 0/\Big.D.NatV w0 v0 F):=⟨F0.out.1.step b0,F0.out.2.1.trans (b0.mono F0.out.2.1.size),F0.out.2.2.below b0,n0⟩
 clear b0 n0 PW F0
 go_wp2_with fail
 all_goals first | (exfalso;omega) | skip
 refine (MU _ _ _ F00.out.2.2.1 F00.out.2.2.2).mono ?_
 rintro o w1 ⟨v1,rfl,n1,b1⟩
 have F1:Hid (Bk w1 w.heap.size [.string ⟨#[]⟩,vI 0,.bool false]/\Bl w w1/\Big.D.NatV w1 v1 0):=⟨F00.out.1.step b1,F00.out.2.1.trans (b1.mono F00.out.2.1.size),n1⟩
 clear b1 n1 MU F00
 have DD:=nC F1.out.2.2
 go_wp2_with fail
 all_goals first | (exfalso;omega) | skip
 refine DD.mono ?_
 rintro o w2 ⟨rfl,b2⟩
 have F2:Hid (Bk w2 w.heap.size [.string ⟨#[]⟩,vI 0,.bool false]/\Bl w w2):=⟨F1.out.1.step b2,F1.out.2.1.trans (b2.mono F1.out.2.1.size)⟩
 clear b2 DD F1
 have e1:(1:Int) + -(k:Int)=1 - (k:Int):=by omega
 go_wp2_with fail
 all_goals first | (exfalso;omega) | skip
 refine (MK _).mono ?_
 rintro o w6 ⟨rfl,b6⟩
 have F6:Hid (Bk w6 w.heap.size [.string ⟨#[]⟩,vI 0,.bool false]/\Bl w w6):=⟨F2.out.1.step b6,F2.out.2.trans (b6.mono F2.out.2.size)⟩
 clear b6 MK F2
 have l6:=F6.out.1.lt
 have a0:=F6.out.1.cell 0 _ rfl
 have a1:=F6.out.1.cell 1 _ rfl
 have a2:=F6.out.1.cell 2 _ rfl
 have f0:=F6.out.1.fz 0
 have f1:=F6.out.1.fz 1
 have f2:=F6.out.1.fz 2
 go_wp2
 exact bodyPost_ret (v:=.agg #[.string ⟨#[]⟩,vI 0,.bool false]) (by simp [results,Tryz.results38,go_sem,World.cell?_setCell_same,World.cell?_setCell_other, *]) rfl ⟨rfl,(((F6.out.2.setCell (Nat.le_refl _) _).setCell (Nat.le_refl _) _).setCell (Nat.le_refl _) _).alloc (by simpa using F6.out.2.size) _⟩
theorem jU {m:Nat}{e:Int}(hm:m<=18014398509481984) (h1:-1075<=e) (h2:e<=971) (h0:0<m \/ e<0) {s:ByteArray}{q:Int}(D:Dx s q (fv m e)) {w:World}{va:Value}(ha:Big.D.NatV w va m) :
 Cb 38 #[va,vI e] w (dcV s q false):=by
 rcases Int.lt_or_le e 0 with c | c
 . obtain ⟨k,rfl⟩:∃ k:Nat,e = -(k:Int):=⟨(-e).toNat,by omega⟩
   by_cases m0:0<m
   . exact aB9 ⟨hm,by omega,by omega,Or.inr rfl⟩ (by omega) m0 D ha
   . obtain rfl:m=0:=by omega
     rw [iR] at D
     obtain ⟨rfl,rfl⟩:=D.uniq aW
     exact xL (by omega) (by omega) ha
 . obtain ⟨j,rfl⟩:∃ j:Nat,e=(j:Int):=⟨e.toNat,by omega⟩
   exact aCa ⟨hm,by omega,by omega,Or.inl rfl⟩ (by omega) D ha
theorem qI {b z:Int}{n:Int}(q1:(n == 0)=false) (HC:∀ W,Cb 65 #[vU b,vI z] W (vI n)) (w:World) :
 Cb 36 #[vU b,vI z] w (vI n):=by
 have F0:Hid (Bl w w):=Below.refl _ _
 go_enter Tryz.func36,Tryz.ntmps36
 go_wp2_with fail
 all_goals first | (exfalso;omega) | skip
 refine (HC _).mono ?_
 rintro o1 w1 ⟨rfl,bb⟩
 have F1:Hid (Bl w w1):=(F0.out).trans (bb.mono (F0.out).size)
 clear F0
 clear bb
 go_wp2
 go_ret
 exact ⟨rfl,F1.out⟩
theorem aBq {b z:Int}{k:Int}(q1:3<=k) (HC:∀ W,Cb 65 #[vU b,vI z] W (vI 0)) (HO:∀ W,Cb 66 #[vU b,vI z] W (vI k)) (w:World) :
 Cb 36 #[vU b,vI z] w (vI 1):=by
 have F0:Hid (Bl w w):=Below.refl _ _
 go_enter Tryz.func36,Tryz.ntmps36
 go_wp2_with fail
 all_goals first | (exfalso;omega) | skip
 refine (HC _).mono ?_
 rintro o1 w1 ⟨rfl,bb⟩
 have F1:Hid (Bl w w1):=(F0.out).trans (bb.mono (F0.out).size)
 clear F0
 clear bb
 go_wp2_with fail
 all_goals first | (exfalso;omega) | skip
 refine (HO _).mono ?_
 rintro o2 w2 ⟨rfl,bb⟩
 have F2:Hid (Bl w w2):=(F1.out).trans (bb.mono (F1.out).size)
 clear F1
 clear bb
 go_wp2
 go_ret
 exact ⟨rfl,F2.out⟩
theorem aCF {b z:Int}{k:Int}(q1:k<3) (HC:∀ W,Cb 65 #[vU b,vI z] W (vI 0)) (HO:∀ W,Cb 66 #[vU b,vI z] W (vI k)) (w:World) :
 Cb 36 #[vU b,vI z] w (vI 0):=by
 have F0:Hid (Bl w w):=Below.refl _ _
 go_enter Tryz.func36,Tryz.ntmps36
 go_wp2_with fail
 all_goals first | (exfalso;omega) | skip
 refine (HC _).mono ?_
 rintro o1 w1 ⟨rfl,bb⟩
 have F1:Hid (Bl w w1):=(F0.out).trans (bb.mono (F0.out).size)
 clear F0
 clear bb
 go_wp2_with fail
 all_goals first | (exfalso;omega) | skip
 refine (HO _).mono ?_
 rintro o2 w2 ⟨rfl,bb⟩
 have F2:Hid (Bl w w2):=(F1.out).trans (bb.mono (F1.out).size)
 clear F1
 clear bb
 go_wp2
 go_ret
 exact ⟨rfl,F2.out⟩
theorem aCd {b z:Int}{n:Int}(q1:(n == 0)=false) (HC:∀ W,Cb 36 #[vU b,vI z] W (vI n)) (w:World) :
 Cb 18 #[vU b,vI z] w (.tuple #[.agg #[.string ⟨#[]⟩,vI 0,.bool false],vI n]):=by
 have F0:Hid (Bk (w.alloc (.cells #[.string ⟨#[]⟩,vI 0,.bool false] 24)) (w.heap.size) [.string ⟨#[]⟩,vI 0,.bool false]/\Bl w (w.alloc (.cells #[.string ⟨#[]⟩,vI 0,.bool false] 24))):=⟨Bk.new3 w (.string ⟨#[]⟩) (vI 0) (.bool false) 24,((Below.refl w.heap.size w)).alloc (Nat.le_refl _) _⟩
 go_enter Tryz.func18,Tryz.ntmps18
 go_upto_region 1 with fail
 generalize (w.alloc (.cells #[.string ⟨#[]⟩,vI 0,.bool false] 24))=w1 at *
 go_wp2_with fail
 all_goals first | (exfalso;omega) | skip
 refine (HC _).mono ?_
 rintro o2 w2 ⟨rfl,bb⟩
 have F1:Hid (Bk w2 (w.heap.size) [.string ⟨#[]⟩,vI 0,.bool false]/\Bl w w2):=⟨(F0.out.1).step bb,(F0.out.2).trans (bb.mono (F0.out.2).size)⟩
 clear F0
 clear bb
 have l1_0:=F1.out.1.lt
 have a1_0_0:=F1.out.1.cell 0 _ rfl
 have f1_0_0:=F1.out.1.fz 0
 have a1_0_1:=F1.out.1.cell 1 _ rfl
 have f1_0_1:=F1.out.1.fz 1
 have a1_0_2:=F1.out.1.cell 2 _ rfl
 have f1_0_2:=F1.out.1.fz 2
 go_wp2
 refine bodyPost_ret (v:=.tuple #[.agg #[.string ⟨#[]⟩,vI 0,.bool false],vI n]) (by simp [results,Tryz.results18,go_sem,World.cell?_setCell_same,World.cell?_setCell_other, *]) rfl ⟨rfl,?_⟩
 repeat (first | refine Below.setCell ?_ (by first | exact Nat.le_refl _ | (dsimp only;omega)) _ | refine Below.alloc ?_ (by first | exact Nat.le_refl _ | omega | (simp;omega)) _ | refine Below.drew ?_)
 exact F1.out.2
theorem aDr {b z:Int}{m:Nat}{E:Int}{s:ByteArray}{p:Int}(hm:m<18446744073709551616) (HC:∀ W,Cb 36 #[vU b,vI z] W (vI 0)) (HP:∀ W,Cb 37 #[vU b,vI z] W (.tuple #[vU (m:Int),vI E])) (HD:∀ W v,Big.D.NatV W v (m) -> Cb 38 #[v,vI E] W (.agg #[.string s,vI p,.bool false])) (w:World) :
 Cb 18 #[vU b,vI z] w (.tuple #[.agg #[.string s,vI p,.bool false],vI 0]):=by
 have F0:Hid (Bk (w.alloc (.cells #[.string ⟨#[]⟩,vI 0,.bool false] 24)) (w.heap.size) [.string ⟨#[]⟩,vI 0,.bool false]/\Bl w (w.alloc (.cells #[.string ⟨#[]⟩,vI 0,.bool false] 24))):=⟨Bk.new3 w (.string ⟨#[]⟩) (vI 0) (.bool false) 24,((Below.refl w.heap.size w)).alloc (Nat.le_refl _) _⟩
 go_enter Tryz.func18,Tryz.ntmps18
 go_upto_region 1 with fail
 generalize (w.alloc (.cells #[.string ⟨#[]⟩,vI 0,.bool false] 24))=w1 at *
 have SM:=fun W=>dR m hm W
 go_wp2_with fail
 all_goals first | (exfalso;omega) | skip
 refine (HC _).mono ?_
 rintro o2 w2 ⟨rfl,bb⟩
 have F1:Hid (Bk w2 (w.heap.size) [.string ⟨#[]⟩,vI 0,.bool false]/\Bl w w2):=⟨(F0.out.1).step bb,(F0.out.2).trans (bb.mono (F0.out.2).size)⟩
 clear F0
 clear bb
 go_wp2_with fail
 all_goals first | (exfalso;omega) | skip
 refine (HP _).mono ?_
 rintro o3 w3 ⟨rfl,bb⟩
 have F2:Hid (Bk w3 (w.heap.size) [.string ⟨#[]⟩,vI 0,.bool false]/\Bl w w3):=⟨(F1.out.1).step bb,(F1.out.2).trans (bb.mono (F1.out.2).size)⟩
 clear F1
 clear bb
 go_wp2_with fail
 all_goals first | (exfalso;omega) | skip
 refine (SM _).mono ?_
 rintro o4 w4 ⟨v1,rfl,nn,bb⟩
 have F3:Hid (Bk w4 (w.heap.size) [.string ⟨#[]⟩,vI 0,.bool false]/\Big.D.NatV w4 v1 (m)/\Bl w w4):=⟨(F2.out.1).step bb,nn,(F2.out.2).trans (bb.mono (F2.out.2).size)⟩
 clear F2
 clear bb nn
 go_wp2_with fail
 all_goals first | (exfalso;omega) | skip
 refine (HD _ _ (F3.out.2.1)).mono ?_
 rintro o5 w5 ⟨rfl,bb⟩
 have F4:Hid (Bk w5 (w.heap.size) [.string ⟨#[]⟩,vI 0,.bool false]/\Big.D.NatV w5 v1 (m)/\Bl w w5):=⟨(F3.out.1).step bb,(F3.out.2.1).below bb,(F3.out.2.2).trans (bb.mono (F3.out.2.2).size)⟩
 clear F3
 clear bb
 have l1_0:=F4.out.1.lt
 have a1_0_0:=F4.out.1.cell 0 _ rfl
 have f1_0_0:=F4.out.1.fz 0
 have a1_0_1:=F4.out.1.cell 1 _ rfl
 have f1_0_1:=F4.out.1.fz 1
 have a1_0_2:=F4.out.1.cell 2 _ rfl
 have f1_0_2:=F4.out.1.fz 2
 go_wp2
 refine bodyPost_ret (v:=.tuple #[.agg #[.string s,vI p,.bool false],vI 0]) (by simp [results,Tryz.results18,go_sem,World.cell?_setCell_same,World.cell?_setCell_other, *]) rfl ⟨rfl,?_⟩
 repeat (first | refine Below.setCell ?_ (by first | exact Nat.le_refl _ | (dsimp only;omega)) _ | refine Below.alloc ?_ (by first | exact Nat.le_refl _ | omega | (simp;omega)) _ | refine Below.drew ?_)
 exact F4.out.2.2
theorem aEo {s t u:ByteArray}{p q o l h:Int}(q1:¬ l<=0)  (HC:∀ W,Cb 23 #[.agg #[.string s,vI p,.bool false],.agg #[.string u,vI o,.bool false]] W (.tuple #[vI l,vI 0])) (HD:∀ W,Cb 23 #[.agg #[.string u,vI o,.bool false],.agg #[.string t,vI q,.bool false]] W (.tuple #[vI h,vI 0])) (w:World) :
 Cb 48 #[.agg #[.string u,vI o,.bool false],.agg #[.string s,vI p,.bool false],.agg #[.string t,vI q,.bool false],.bool true] w (.bool false):=by
 have F0:Hid (Bk (((w.alloc (.cells #[.string u,vI o,.bool false] 24)).alloc (.cells #[.string s,vI p,.bool false] 24)).alloc (.cells #[.string t,vI q,.bool false] 24)) (w.heap.size) [.string u,vI o,.bool false]/\Bk (((w.alloc (.cells #[.string u,vI o,.bool false] 24)).alloc (.cells #[.string s,vI p,.bool false] 24)).alloc (.cells #[.string t,vI q,.bool false] 24)) (w.heap.size+1) [.string s,vI p,.bool false]/\Bk (((w.alloc (.cells #[.string u,vI o,.bool false] 24)).alloc (.cells #[.string s,vI p,.bool false] 24)).alloc (.cells #[.string t,vI q,.bool false] 24)) (w.heap.size+1+1) [.string t,vI q,.bool false]/\Bl w (((w.alloc (.cells #[.string u,vI o,.bool false] 24)).alloc (.cells #[.string s,vI p,.bool false] 24)).alloc (.cells #[.string t,vI q,.bool false] 24))):=⟨((Bk.new3 w (.string u) (vI o) (.bool false) 24).step (bz _ _)).step (bz _ _),(((by have q:=Bk.new3 (w.alloc (.cells #[.string u,vI o,.bool false] 24)) (.string s) (vI p) (.bool false) 24;simpa using q):Bk ((w.alloc (.cells #[.string u,vI o,.bool false] 24)).alloc (.cells #[.string s,vI p,.bool false] 24)) (w.heap.size+1) [.string s,vI p,.bool false])).step (bz _ _),((by have q:=Bk.new3 ((w.alloc (.cells #[.string u,vI o,.bool false] 24)).alloc (.cells #[.string s,vI p,.bool false] 24)) (.string t) (vI q) (.bool false) 24;simpa using q):Bk (((w.alloc (.cells #[.string u,vI o,.bool false] 24)).alloc (.cells #[.string s,vI p,.bool false] 24)).alloc (.cells #[.string t,vI q,.bool false] 24)) (w.heap.size+1+1) [.string t,vI q,.bool false]),((((Below.refl w.heap.size w)).alloc (Nat.le_refl _) _).alloc ((((Below.refl w.heap.size w)).alloc (Nat.le_refl _) _).size) _).alloc (((((Below.refl w.heap.size w)).alloc (Nat.le_refl _) _).alloc ((((Below.refl w.heap.size w)).alloc (Nat.le_refl _) _).size) _).size) _⟩
 go_enter Tryz.func48,Tryz.ntmps48
 go_upto_region 1 with fail
 generalize (((w.alloc (.cells #[.string u,vI o,.bool false] 24)).alloc (.cells #[.string s,vI p,.bool false] 24)).alloc (.cells #[.string t,vI q,.bool false] 24))=w1 at *
 have q0:¬ l<0:=by omega
 have l1_0:=F0.out.1.lt
 have a1_0_0:=F0.out.1.cell 0 _ rfl
 have f1_0_0:=F0.out.1.fz 0
 have a1_0_1:=F0.out.1.cell 1 _ rfl
 have f1_0_1:=F0.out.1.fz 1
 have a1_0_2:=F0.out.1.cell 2 _ rfl
 have f1_0_2:=F0.out.1.fz 2
 have l1_1:=F0.out.2.1.lt
 have a1_1_0:=F0.out.2.1.cell 0 _ rfl
 have f1_1_0:=F0.out.2.1.fz 0
 have a1_1_1:=F0.out.2.1.cell 1 _ rfl
 have f1_1_1:=F0.out.2.1.fz 1
 have a1_1_2:=F0.out.2.1.cell 2 _ rfl
 have f1_1_2:=F0.out.2.1.fz 2
 have l1_2:=F0.out.2.2.1.lt
 have a1_2_0:=F0.out.2.2.1.cell 0 _ rfl
 have f1_2_0:=F0.out.2.2.1.fz 0
 have a1_2_1:=F0.out.2.2.1.cell 1 _ rfl
 have f1_2_1:=F0.out.2.2.1.fz 1
 have a1_2_2:=F0.out.2.2.1.cell 2 _ rfl
 have f1_2_2:=F0.out.2.2.1.fz 2
 have ne1_0_1:¬ w.heap.size=w.heap.size+1:=by omega
 have ne1_0_2:¬ w.heap.size=w.heap.size+1+1:=by omega
 have ne1_1_0:¬ w.heap.size+1=w.heap.size:=by omega
 have ne1_1_2:¬ w.heap.size+1=w.heap.size+1+1:=by omega
 have ne1_2_0:¬ w.heap.size+1+1=w.heap.size:=by omega
 have ne1_2_1:¬ w.heap.size+1+1=w.heap.size+1:=by omega
 go_wp2_with fail
 all_goals first | (exfalso;omega) | skip
 refine (HC _).mono ?_
 rintro o2 w2 ⟨rfl,bb⟩
 have F1:Hid (Bk w2 (w.heap.size) [.string u,vI o,.bool false]/\Bk w2 (w.heap.size+1) [.string s,vI p,.bool false]/\Bk w2 (w.heap.size+1+1) [.string t,vI q,.bool false]/\Bl w w2):=⟨(F0.out.1).step bb,(F0.out.2.1).step bb,(F0.out.2.2.1).step bb,(F0.out.2.2.2).trans (bb.mono (F0.out.2.2.2).size)⟩
 clear F0
 clear bb
 clear l1_0 a1_0_0 f1_0_0 a1_0_1 f1_0_1 a1_0_2 f1_0_2 l1_1 a1_1_0 f1_1_0 a1_1_1 f1_1_1 a1_1_2 f1_1_2 l1_2 a1_2_0 f1_2_0 a1_2_1 f1_2_1 a1_2_2 f1_2_2
 have l2_0:=F1.out.1.lt
 have a2_0_0:=F1.out.1.cell 0 _ rfl
 have f2_0_0:=F1.out.1.fz 0
 have a2_0_1:=F1.out.1.cell 1 _ rfl
 have f2_0_1:=F1.out.1.fz 1
 have a2_0_2:=F1.out.1.cell 2 _ rfl
 have f2_0_2:=F1.out.1.fz 2
 have l2_1:=F1.out.2.1.lt
 have a2_1_0:=F1.out.2.1.cell 0 _ rfl
 have f2_1_0:=F1.out.2.1.fz 0
 have a2_1_1:=F1.out.2.1.cell 1 _ rfl
 have f2_1_1:=F1.out.2.1.fz 1
 have a2_1_2:=F1.out.2.1.cell 2 _ rfl
 have f2_1_2:=F1.out.2.1.fz 2
 have l2_2:=F1.out.2.2.1.lt
 have a2_2_0:=F1.out.2.2.1.cell 0 _ rfl
 have f2_2_0:=F1.out.2.2.1.fz 0
 have a2_2_1:=F1.out.2.2.1.cell 1 _ rfl
 have f2_2_1:=F1.out.2.2.1.fz 1
 have a2_2_2:=F1.out.2.2.1.cell 2 _ rfl
 have f2_2_2:=F1.out.2.2.1.fz 2
 have ne2_0_1:¬ w.heap.size=w.heap.size+1:=by omega
 have ne2_0_2:¬ w.heap.size=w.heap.size+1+1:=by omega
 have ne2_1_0:¬ w.heap.size+1=w.heap.size:=by omega
 have ne2_1_2:¬ w.heap.size+1=w.heap.size+1+1:=by omega
 have ne2_2_0:¬ w.heap.size+1+1=w.heap.size:=by omega
 have ne2_2_1:¬ w.heap.size+1+1=w.heap.size+1:=by omega
 go_wp2_with fail
 all_goals first | (exfalso;omega) | skip
 refine (HD _).mono ?_
 rintro o3 w3 ⟨rfl,bb⟩
 have F2:Hid (Bk w3 (w.heap.size) [.string u,vI o,.bool false]/\Bk w3 (w.heap.size+1) [.string s,vI p,.bool false]/\Bk w3 (w.heap.size+1+1) [.string t,vI q,.bool false]/\Bl w w3):=⟨(F1.out.1).step bb,(F1.out.2.1).step bb,(F1.out.2.2.1).step bb,(F1.out.2.2.2).trans (bb.mono (F1.out.2.2.2).size)⟩
 clear F1
 clear bb
 clear l2_0 a2_0_0 f2_0_0 a2_0_1 f2_0_1 a2_0_2 f2_0_2 l2_1 a2_1_0 f2_1_0 a2_1_1 f2_1_1 a2_1_2 f2_1_2 l2_2 a2_2_0 f2_2_0 a2_2_1 f2_2_1 a2_2_2 f2_2_2
 have l3_0:=F2.out.1.lt
 have a3_0_0:=F2.out.1.cell 0 _ rfl
 have f3_0_0:=F2.out.1.fz 0
 have a3_0_1:=F2.out.1.cell 1 _ rfl
 have f3_0_1:=F2.out.1.fz 1
 have a3_0_2:=F2.out.1.cell 2 _ rfl
 have f3_0_2:=F2.out.1.fz 2
 have l3_1:=F2.out.2.1.lt
 have a3_1_0:=F2.out.2.1.cell 0 _ rfl
 have f3_1_0:=F2.out.2.1.fz 0
 have a3_1_1:=F2.out.2.1.cell 1 _ rfl
 have f3_1_1:=F2.out.2.1.fz 1
 have a3_1_2:=F2.out.2.1.cell 2 _ rfl
 have f3_1_2:=F2.out.2.1.fz 2
 have l3_2:=F2.out.2.2.1.lt
 have a3_2_0:=F2.out.2.2.1.cell 0 _ rfl
 have f3_2_0:=F2.out.2.2.1.fz 0
 have a3_2_1:=F2.out.2.2.1.cell 1 _ rfl
 have f3_2_1:=F2.out.2.2.1.fz 1
 have a3_2_2:=F2.out.2.2.1.cell 2 _ rfl
 have f3_2_2:=F2.out.2.2.1.fz 2
 have ne3_0_1:¬ w.heap.size=w.heap.size+1:=by omega
 have ne3_0_2:¬ w.heap.size=w.heap.size+1+1:=by omega
 have ne3_1_0:¬ w.heap.size+1=w.heap.size:=by omega
 have ne3_1_2:¬ w.heap.size+1=w.heap.size+1+1:=by omega
 have ne3_2_0:¬ w.heap.size+1+1=w.heap.size:=by omega
 have ne3_2_1:¬ w.heap.size+1+1=w.heap.size+1:=by omega
 go_wp2
 go_ret
 exact ⟨rfl,F2.out.2.2.2⟩
theorem aEp {s t u:ByteArray}{p q o l h:Int}  (q2:l<0) (q3:h<0) (HC:∀ W,Cb 23 #[.agg #[.string s,vI p,.bool false],.agg #[.string u,vI o,.bool false]] W (.tuple #[vI l,vI 0])) (HD:∀ W,Cb 23 #[.agg #[.string u,vI o,.bool false],.agg #[.string t,vI q,.bool false]] W (.tuple #[vI h,vI 0])) (w:World) :
 Cb 48 #[.agg #[.string u,vI o,.bool false],.agg #[.string s,vI p,.bool false],.agg #[.string t,vI q,.bool false],.bool true] w (.bool true):=by
 have F0:Hid (Bk (((w.alloc (.cells #[.string u,vI o,.bool false] 24)).alloc (.cells #[.string s,vI p,.bool false] 24)).alloc (.cells #[.string t,vI q,.bool false] 24)) (w.heap.size) [.string u,vI o,.bool false]/\Bk (((w.alloc (.cells #[.string u,vI o,.bool false] 24)).alloc (.cells #[.string s,vI p,.bool false] 24)).alloc (.cells #[.string t,vI q,.bool false] 24)) (w.heap.size+1) [.string s,vI p,.bool false]/\Bk (((w.alloc (.cells #[.string u,vI o,.bool false] 24)).alloc (.cells #[.string s,vI p,.bool false] 24)).alloc (.cells #[.string t,vI q,.bool false] 24)) (w.heap.size+1+1) [.string t,vI q,.bool false]/\Bl w (((w.alloc (.cells #[.string u,vI o,.bool false] 24)).alloc (.cells #[.string s,vI p,.bool false] 24)).alloc (.cells #[.string t,vI q,.bool false] 24))):=⟨((Bk.new3 w (.string u) (vI o) (.bool false) 24).step (bz _ _)).step (bz _ _),(((by have q:=Bk.new3 (w.alloc (.cells #[.string u,vI o,.bool false] 24)) (.string s) (vI p) (.bool false) 24;simpa using q):Bk ((w.alloc (.cells #[.string u,vI o,.bool false] 24)).alloc (.cells #[.string s,vI p,.bool false] 24)) (w.heap.size+1) [.string s,vI p,.bool false])).step (bz _ _),((by have q:=Bk.new3 ((w.alloc (.cells #[.string u,vI o,.bool false] 24)).alloc (.cells #[.string s,vI p,.bool false] 24)) (.string t) (vI q) (.bool false) 24;simpa using q):Bk (((w.alloc (.cells #[.string u,vI o,.bool false] 24)).alloc (.cells #[.string s,vI p,.bool false] 24)).alloc (.cells #[.string t,vI q,.bool false] 24)) (w.heap.size+1+1) [.string t,vI q,.bool false]),((((Below.refl w.heap.size w)).alloc (Nat.le_refl _) _).alloc ((((Below.refl w.heap.size w)).alloc (Nat.le_refl _) _).size) _).alloc (((((Below.refl w.heap.size w)).alloc (Nat.le_refl _) _).alloc ((((Below.refl w.heap.size w)).alloc (Nat.le_refl _) _).size) _).size) _⟩
 go_enter Tryz.func48,Tryz.ntmps48
 go_upto_region 1 with fail
 generalize (((w.alloc (.cells #[.string u,vI o,.bool false] 24)).alloc (.cells #[.string s,vI p,.bool false] 24)).alloc (.cells #[.string t,vI q,.bool false] 24))=w1 at *
 have l1_0:=F0.out.1.lt
 have a1_0_0:=F0.out.1.cell 0 _ rfl
 have f1_0_0:=F0.out.1.fz 0
 have a1_0_1:=F0.out.1.cell 1 _ rfl
 have f1_0_1:=F0.out.1.fz 1
 have a1_0_2:=F0.out.1.cell 2 _ rfl
 have f1_0_2:=F0.out.1.fz 2
 have l1_1:=F0.out.2.1.lt
 have a1_1_0:=F0.out.2.1.cell 0 _ rfl
 have f1_1_0:=F0.out.2.1.fz 0
 have a1_1_1:=F0.out.2.1.cell 1 _ rfl
 have f1_1_1:=F0.out.2.1.fz 1
 have a1_1_2:=F0.out.2.1.cell 2 _ rfl
 have f1_1_2:=F0.out.2.1.fz 2
 have l1_2:=F0.out.2.2.1.lt
 have a1_2_0:=F0.out.2.2.1.cell 0 _ rfl
 have f1_2_0:=F0.out.2.2.1.fz 0
 have a1_2_1:=F0.out.2.2.1.cell 1 _ rfl
 have f1_2_1:=F0.out.2.2.1.fz 1
 have a1_2_2:=F0.out.2.2.1.cell 2 _ rfl
 have f1_2_2:=F0.out.2.2.1.fz 2
 have ne1_0_1:¬ w.heap.size=w.heap.size+1:=by omega
 have ne1_0_2:¬ w.heap.size=w.heap.size+1+1:=by omega
 have ne1_1_0:¬ w.heap.size+1=w.heap.size:=by omega
 have ne1_1_2:¬ w.heap.size+1=w.heap.size+1+1:=by omega
 have ne1_2_0:¬ w.heap.size+1+1=w.heap.size:=by omega
 have ne1_2_1:¬ w.heap.size+1+1=w.heap.size+1:=by omega
 go_wp2_with fail
 all_goals first | (exfalso;omega) | skip
 refine (HC _).mono ?_
 rintro o2 w2 ⟨rfl,bb⟩
 have F1:Hid (Bk w2 (w.heap.size) [.string u,vI o,.bool false]/\Bk w2 (w.heap.size+1) [.string s,vI p,.bool false]/\Bk w2 (w.heap.size+1+1) [.string t,vI q,.bool false]/\Bl w w2):=⟨(F0.out.1).step bb,(F0.out.2.1).step bb,(F0.out.2.2.1).step bb,(F0.out.2.2.2).trans (bb.mono (F0.out.2.2.2).size)⟩
 clear F0
 clear bb
 clear l1_0 a1_0_0 f1_0_0 a1_0_1 f1_0_1 a1_0_2 f1_0_2 l1_1 a1_1_0 f1_1_0 a1_1_1 f1_1_1 a1_1_2 f1_1_2 l1_2 a1_2_0 f1_2_0 a1_2_1 f1_2_1 a1_2_2 f1_2_2
 have l2_0:=F1.out.1.lt
 have a2_0_0:=F1.out.1.cell 0 _ rfl
 have f2_0_0:=F1.out.1.fz 0
 have a2_0_1:=F1.out.1.cell 1 _ rfl
 have f2_0_1:=F1.out.1.fz 1
 have a2_0_2:=F1.out.1.cell 2 _ rfl
 have f2_0_2:=F1.out.1.fz 2
 have l2_1:=F1.out.2.1.lt
 have a2_1_0:=F1.out.2.1.cell 0 _ rfl
 have f2_1_0:=F1.out.2.1.fz 0
 have a2_1_1:=F1.out.2.1.cell 1 _ rfl
 have f2_1_1:=F1.out.2.1.fz 1
 have a2_1_2:=F1.out.2.1.cell 2 _ rfl
 have f2_1_2:=F1.out.2.1.fz 2
 have l2_2:=F1.out.2.2.1.lt
 have a2_2_0:=F1.out.2.2.1.cell 0 _ rfl
 have f2_2_0:=F1.out.2.2.1.fz 0
 have a2_2_1:=F1.out.2.2.1.cell 1 _ rfl
 have f2_2_1:=F1.out.2.2.1.fz 1
 have a2_2_2:=F1.out.2.2.1.cell 2 _ rfl
 have f2_2_2:=F1.out.2.2.1.fz 2
 have ne2_0_1:¬ w.heap.size=w.heap.size+1:=by omega
 have ne2_0_2:¬ w.heap.size=w.heap.size+1+1:=by omega
 have ne2_1_0:¬ w.heap.size+1=w.heap.size:=by omega
 have ne2_1_2:¬ w.heap.size+1=w.heap.size+1+1:=by omega
 have ne2_2_0:¬ w.heap.size+1+1=w.heap.size:=by omega
 have ne2_2_1:¬ w.heap.size+1+1=w.heap.size+1:=by omega
 go_wp2_with fail
 all_goals first | (exfalso;omega) | skip
 refine (HD _).mono ?_
 rintro o3 w3 ⟨rfl,bb⟩
 have F2:Hid (Bk w3 (w.heap.size) [.string u,vI o,.bool false]/\Bk w3 (w.heap.size+1) [.string s,vI p,.bool false]/\Bk w3 (w.heap.size+1+1) [.string t,vI q,.bool false]/\Bl w w3):=⟨(F1.out.1).step bb,(F1.out.2.1).step bb,(F1.out.2.2.1).step bb,(F1.out.2.2.2).trans (bb.mono (F1.out.2.2.2).size)⟩
 clear F1
 clear bb
 clear l2_0 a2_0_0 f2_0_0 a2_0_1 f2_0_1 a2_0_2 f2_0_2 l2_1 a2_1_0 f2_1_0 a2_1_1 f2_1_1 a2_1_2 f2_1_2 l2_2 a2_2_0 f2_2_0 a2_2_1 f2_2_1 a2_2_2 f2_2_2
 have l3_0:=F2.out.1.lt
 have a3_0_0:=F2.out.1.cell 0 _ rfl
 have f3_0_0:=F2.out.1.fz 0
 have a3_0_1:=F2.out.1.cell 1 _ rfl
 have f3_0_1:=F2.out.1.fz 1
 have a3_0_2:=F2.out.1.cell 2 _ rfl
 have f3_0_2:=F2.out.1.fz 2
 have l3_1:=F2.out.2.1.lt
 have a3_1_0:=F2.out.2.1.cell 0 _ rfl
 have f3_1_0:=F2.out.2.1.fz 0
 have a3_1_1:=F2.out.2.1.cell 1 _ rfl
 have f3_1_1:=F2.out.2.1.fz 1
 have a3_1_2:=F2.out.2.1.cell 2 _ rfl
 have f3_1_2:=F2.out.2.1.fz 2
 have l3_2:=F2.out.2.2.1.lt
 have a3_2_0:=F2.out.2.2.1.cell 0 _ rfl
 have f3_2_0:=F2.out.2.2.1.fz 0
 have a3_2_1:=F2.out.2.2.1.cell 1 _ rfl
 have f3_2_1:=F2.out.2.2.1.fz 1
 have a3_2_2:=F2.out.2.2.1.cell 2 _ rfl
 have f3_2_2:=F2.out.2.2.1.fz 2
 have ne3_0_1:¬ w.heap.size=w.heap.size+1:=by omega
 have ne3_0_2:¬ w.heap.size=w.heap.size+1+1:=by omega
 have ne3_1_0:¬ w.heap.size+1=w.heap.size:=by omega
 have ne3_1_2:¬ w.heap.size+1=w.heap.size+1+1:=by omega
 have ne3_2_0:¬ w.heap.size+1+1=w.heap.size:=by omega
 have ne3_2_1:¬ w.heap.size+1+1=w.heap.size+1:=by omega
 go_wp2
 go_ret
 exact ⟨rfl,F2.out.2.2.2⟩
theorem aEq {s t u:ByteArray}{p q o l h:Int}(q1:l<=0) (q2:l<0) (q3:¬ h<0) (HC:∀ W,Cb 23 #[.agg #[.string s,vI p,.bool false],.agg #[.string u,vI o,.bool false]] W (.tuple #[vI l,vI 0])) (HD:∀ W,Cb 23 #[.agg #[.string u,vI o,.bool false],.agg #[.string t,vI q,.bool false]] W (.tuple #[vI h,vI 0])) (w:World) :
 Cb 48 #[.agg #[.string u,vI o,.bool false],.agg #[.string s,vI p,.bool false],.agg #[.string t,vI q,.bool false],.bool true] w (.bool (decide (h<0) || decide (h<=0))):=by
 have F0:Hid (Bk (((w.alloc (.cells #[.string u,vI o,.bool false] 24)).alloc (.cells #[.string s,vI p,.bool false] 24)).alloc (.cells #[.string t,vI q,.bool false] 24)) (w.heap.size) [.string u,vI o,.bool false]/\Bk (((w.alloc (.cells #[.string u,vI o,.bool false] 24)).alloc (.cells #[.string s,vI p,.bool false] 24)).alloc (.cells #[.string t,vI q,.bool false] 24)) (w.heap.size+1) [.string s,vI p,.bool false]/\Bk (((w.alloc (.cells #[.string u,vI o,.bool false] 24)).alloc (.cells #[.string s,vI p,.bool false] 24)).alloc (.cells #[.string t,vI q,.bool false] 24)) (w.heap.size+1+1) [.string t,vI q,.bool false]/\Bl w (((w.alloc (.cells #[.string u,vI o,.bool false] 24)).alloc (.cells #[.string s,vI p,.bool false] 24)).alloc (.cells #[.string t,vI q,.bool false] 24))):=⟨((Bk.new3 w (.string u) (vI o) (.bool false) 24).step (bz _ _)).step (bz _ _),(((by have q:=Bk.new3 (w.alloc (.cells #[.string u,vI o,.bool false] 24)) (.string s) (vI p) (.bool false) 24;simpa using q):Bk ((w.alloc (.cells #[.string u,vI o,.bool false] 24)).alloc (.cells #[.string s,vI p,.bool false] 24)) (w.heap.size+1) [.string s,vI p,.bool false])).step (bz _ _),((by have q:=Bk.new3 ((w.alloc (.cells #[.string u,vI o,.bool false] 24)).alloc (.cells #[.string s,vI p,.bool false] 24)) (.string t) (vI q) (.bool false) 24;simpa using q):Bk (((w.alloc (.cells #[.string u,vI o,.bool false] 24)).alloc (.cells #[.string s,vI p,.bool false] 24)).alloc (.cells #[.string t,vI q,.bool false] 24)) (w.heap.size+1+1) [.string t,vI q,.bool false]),((((Below.refl w.heap.size w)).alloc (Nat.le_refl _) _).alloc ((((Below.refl w.heap.size w)).alloc (Nat.le_refl _) _).size) _).alloc (((((Below.refl w.heap.size w)).alloc (Nat.le_refl _) _).alloc ((((Below.refl w.heap.size w)).alloc (Nat.le_refl _) _).size) _).size) _⟩
 go_enter Tryz.func48,Tryz.ntmps48
 go_upto_region 1 with fail
 generalize (((w.alloc (.cells #[.string u,vI o,.bool false] 24)).alloc (.cells #[.string s,vI p,.bool false] 24)).alloc (.cells #[.string t,vI q,.bool false] 24))=w1 at *
 have l1_0:=F0.out.1.lt
 have a1_0_0:=F0.out.1.cell 0 _ rfl
 have f1_0_0:=F0.out.1.fz 0
 have a1_0_1:=F0.out.1.cell 1 _ rfl
 have f1_0_1:=F0.out.1.fz 1
 have a1_0_2:=F0.out.1.cell 2 _ rfl
 have f1_0_2:=F0.out.1.fz 2
 have l1_1:=F0.out.2.1.lt
 have a1_1_0:=F0.out.2.1.cell 0 _ rfl
 have f1_1_0:=F0.out.2.1.fz 0
 have a1_1_1:=F0.out.2.1.cell 1 _ rfl
 have f1_1_1:=F0.out.2.1.fz 1
 have a1_1_2:=F0.out.2.1.cell 2 _ rfl
 have f1_1_2:=F0.out.2.1.fz 2
 have l1_2:=F0.out.2.2.1.lt
 have a1_2_0:=F0.out.2.2.1.cell 0 _ rfl
 have f1_2_0:=F0.out.2.2.1.fz 0
 have a1_2_1:=F0.out.2.2.1.cell 1 _ rfl
 have f1_2_1:=F0.out.2.2.1.fz 1
 have a1_2_2:=F0.out.2.2.1.cell 2 _ rfl
 have f1_2_2:=F0.out.2.2.1.fz 2
 have ne1_0_1:¬ w.heap.size=w.heap.size+1:=by omega
 have ne1_0_2:¬ w.heap.size=w.heap.size+1+1:=by omega
 have ne1_1_0:¬ w.heap.size+1=w.heap.size:=by omega
 have ne1_1_2:¬ w.heap.size+1=w.heap.size+1+1:=by omega
 have ne1_2_0:¬ w.heap.size+1+1=w.heap.size:=by omega
 have ne1_2_1:¬ w.heap.size+1+1=w.heap.size+1:=by omega
 go_wp2_with fail
 all_goals first | (exfalso;omega) | skip
 refine (HC _).mono ?_
 rintro o2 w2 ⟨rfl,bb⟩
 have F1:Hid (Bk w2 (w.heap.size) [.string u,vI o,.bool false]/\Bk w2 (w.heap.size+1) [.string s,vI p,.bool false]/\Bk w2 (w.heap.size+1+1) [.string t,vI q,.bool false]/\Bl w w2):=⟨(F0.out.1).step bb,(F0.out.2.1).step bb,(F0.out.2.2.1).step bb,(F0.out.2.2.2).trans (bb.mono (F0.out.2.2.2).size)⟩
 clear F0
 clear bb
 clear l1_0 a1_0_0 f1_0_0 a1_0_1 f1_0_1 a1_0_2 f1_0_2 l1_1 a1_1_0 f1_1_0 a1_1_1 f1_1_1 a1_1_2 f1_1_2 l1_2 a1_2_0 f1_2_0 a1_2_1 f1_2_1 a1_2_2 f1_2_2
 have l2_0:=F1.out.1.lt
 have a2_0_0:=F1.out.1.cell 0 _ rfl
 have f2_0_0:=F1.out.1.fz 0
 have a2_0_1:=F1.out.1.cell 1 _ rfl
 have f2_0_1:=F1.out.1.fz 1
 have a2_0_2:=F1.out.1.cell 2 _ rfl
 have f2_0_2:=F1.out.1.fz 2
 have l2_1:=F1.out.2.1.lt
 have a2_1_0:=F1.out.2.1.cell 0 _ rfl
 have f2_1_0:=F1.out.2.1.fz 0
 have a2_1_1:=F1.out.2.1.cell 1 _ rfl
 have f2_1_1:=F1.out.2.1.fz 1
 have a2_1_2:=F1.out.2.1.cell 2 _ rfl
 have f2_1_2:=F1.out.2.1.fz 2
 have l2_2:=F1.out.2.2.1.lt
 have a2_2_0:=F1.out.2.2.1.cell 0 _ rfl
 have f2_2_0:=F1.out.2.2.1.fz 0
 have a2_2_1:=F1.out.2.2.1.cell 1 _ rfl
 have f2_2_1:=F1.out.2.2.1.fz 1
 have a2_2_2:=F1.out.2.2.1.cell 2 _ rfl
 have f2_2_2:=F1.out.2.2.1.fz 2
 have ne2_0_1:¬ w.heap.size=w.heap.size+1:=by omega
 have ne2_0_2:¬ w.heap.size=w.heap.size+1+1:=by omega
 have ne2_1_0:¬ w.heap.size+1=w.heap.size:=by omega
 have ne2_1_2:¬ w.heap.size+1=w.heap.size+1+1:=by omega
 have ne2_2_0:¬ w.heap.size+1+1=w.heap.size:=by omega
 have ne2_2_1:¬ w.heap.size+1+1=w.heap.size+1:=by omega
 go_wp2_with fail
 all_goals first | (exfalso;omega) | skip
 refine (HD _).mono ?_
 rintro o3 w3 ⟨rfl,bb⟩
 have F2:Hid (Bk w3 (w.heap.size) [.string u,vI o,.bool false]/\Bk w3 (w.heap.size+1) [.string s,vI p,.bool false]/\Bk w3 (w.heap.size+1+1) [.string t,vI q,.bool false]/\Bl w w3):=⟨(F1.out.1).step bb,(F1.out.2.1).step bb,(F1.out.2.2.1).step bb,(F1.out.2.2.2).trans (bb.mono (F1.out.2.2.2).size)⟩
 clear F1
 clear bb
 clear l2_0 a2_0_0 f2_0_0 a2_0_1 f2_0_1 a2_0_2 f2_0_2 l2_1 a2_1_0 f2_1_0 a2_1_1 f2_1_1 a2_1_2 f2_1_2 l2_2 a2_2_0 f2_2_0 a2_2_1 f2_2_1 a2_2_2 f2_2_2
 have l3_0:=F2.out.1.lt
 have a3_0_0:=F2.out.1.cell 0 _ rfl
 have f3_0_0:=F2.out.1.fz 0
 have a3_0_1:=F2.out.1.cell 1 _ rfl
 have f3_0_1:=F2.out.1.fz 1
 have a3_0_2:=F2.out.1.cell 2 _ rfl
 have f3_0_2:=F2.out.1.fz 2
 have l3_1:=F2.out.2.1.lt
 have a3_1_0:=F2.out.2.1.cell 0 _ rfl
 have f3_1_0:=F2.out.2.1.fz 0
 have a3_1_1:=F2.out.2.1.cell 1 _ rfl
 have f3_1_1:=F2.out.2.1.fz 1
 have a3_1_2:=F2.out.2.1.cell 2 _ rfl
 have f3_1_2:=F2.out.2.1.fz 2
 have l3_2:=F2.out.2.2.1.lt
 have a3_2_0:=F2.out.2.2.1.cell 0 _ rfl
 have f3_2_0:=F2.out.2.2.1.fz 0
 have a3_2_1:=F2.out.2.2.1.cell 1 _ rfl
 have f3_2_1:=F2.out.2.2.1.fz 1
 have a3_2_2:=F2.out.2.2.1.cell 2 _ rfl
 have f3_2_2:=F2.out.2.2.1.fz 2
 have ne3_0_1:¬ w.heap.size=w.heap.size+1:=by omega
 have ne3_0_2:¬ w.heap.size=w.heap.size+1+1:=by omega
 have ne3_1_0:¬ w.heap.size+1=w.heap.size:=by omega
 have ne3_1_2:¬ w.heap.size+1=w.heap.size+1+1:=by omega
 have ne3_2_0:¬ w.heap.size+1+1=w.heap.size:=by omega
 have ne3_2_1:¬ w.heap.size+1+1=w.heap.size+1:=by omega
 go_wp2
 go_ret
 exact ⟨rfl,F2.out.2.2.2⟩
theorem aEr {s t u:ByteArray}{p q o l h:Int}(q1:l<=0) (q2:¬ l<0) (HC:∀ W,Cb 23 #[.agg #[.string s,vI p,.bool false],.agg #[.string u,vI o,.bool false]] W (.tuple #[vI l,vI 0])) (HD:∀ W,Cb 23 #[.agg #[.string u,vI o,.bool false],.agg #[.string t,vI q,.bool false]] W (.tuple #[vI h,vI 0])) (w:World) :
 Cb 48 #[.agg #[.string u,vI o,.bool false],.agg #[.string s,vI p,.bool false],.agg #[.string t,vI q,.bool false],.bool true] w (.bool (decide (h<=0))):=by
 have F0:Hid (Bk (((w.alloc (.cells #[.string u,vI o,.bool false] 24)).alloc (.cells #[.string s,vI p,.bool false] 24)).alloc (.cells #[.string t,vI q,.bool false] 24)) (w.heap.size) [.string u,vI o,.bool false]/\Bk (((w.alloc (.cells #[.string u,vI o,.bool false] 24)).alloc (.cells #[.string s,vI p,.bool false] 24)).alloc (.cells #[.string t,vI q,.bool false] 24)) (w.heap.size+1) [.string s,vI p,.bool false]/\Bk (((w.alloc (.cells #[.string u,vI o,.bool false] 24)).alloc (.cells #[.string s,vI p,.bool false] 24)).alloc (.cells #[.string t,vI q,.bool false] 24)) (w.heap.size+1+1) [.string t,vI q,.bool false]/\Bl w (((w.alloc (.cells #[.string u,vI o,.bool false] 24)).alloc (.cells #[.string s,vI p,.bool false] 24)).alloc (.cells #[.string t,vI q,.bool false] 24))):=⟨((Bk.new3 w (.string u) (vI o) (.bool false) 24).step (bz _ _)).step (bz _ _),(((by have q:=Bk.new3 (w.alloc (.cells #[.string u,vI o,.bool false] 24)) (.string s) (vI p) (.bool false) 24;simpa using q):Bk ((w.alloc (.cells #[.string u,vI o,.bool false] 24)).alloc (.cells #[.string s,vI p,.bool false] 24)) (w.heap.size+1) [.string s,vI p,.bool false])).step (bz _ _),((by have q:=Bk.new3 ((w.alloc (.cells #[.string u,vI o,.bool false] 24)).alloc (.cells #[.string s,vI p,.bool false] 24)) (.string t) (vI q) (.bool false) 24;simpa using q):Bk (((w.alloc (.cells #[.string u,vI o,.bool false] 24)).alloc (.cells #[.string s,vI p,.bool false] 24)).alloc (.cells #[.string t,vI q,.bool false] 24)) (w.heap.size+1+1) [.string t,vI q,.bool false]),((((Below.refl w.heap.size w)).alloc (Nat.le_refl _) _).alloc ((((Below.refl w.heap.size w)).alloc (Nat.le_refl _) _).size) _).alloc (((((Below.refl w.heap.size w)).alloc (Nat.le_refl _) _).alloc ((((Below.refl w.heap.size w)).alloc (Nat.le_refl _) _).size) _).size) _⟩
 go_enter Tryz.func48,Tryz.ntmps48
 go_upto_region 1 with fail
 generalize (((w.alloc (.cells #[.string u,vI o,.bool false] 24)).alloc (.cells #[.string s,vI p,.bool false] 24)).alloc (.cells #[.string t,vI q,.bool false] 24))=w1 at *
 have l1_0:=F0.out.1.lt
 have a1_0_0:=F0.out.1.cell 0 _ rfl
 have f1_0_0:=F0.out.1.fz 0
 have a1_0_1:=F0.out.1.cell 1 _ rfl
 have f1_0_1:=F0.out.1.fz 1
 have a1_0_2:=F0.out.1.cell 2 _ rfl
 have f1_0_2:=F0.out.1.fz 2
 have l1_1:=F0.out.2.1.lt
 have a1_1_0:=F0.out.2.1.cell 0 _ rfl
 have f1_1_0:=F0.out.2.1.fz 0
 have a1_1_1:=F0.out.2.1.cell 1 _ rfl
 have f1_1_1:=F0.out.2.1.fz 1
 have a1_1_2:=F0.out.2.1.cell 2 _ rfl
 have f1_1_2:=F0.out.2.1.fz 2
 have l1_2:=F0.out.2.2.1.lt
 have a1_2_0:=F0.out.2.2.1.cell 0 _ rfl
 have f1_2_0:=F0.out.2.2.1.fz 0
 have a1_2_1:=F0.out.2.2.1.cell 1 _ rfl
 have f1_2_1:=F0.out.2.2.1.fz 1
 have a1_2_2:=F0.out.2.2.1.cell 2 _ rfl
 have f1_2_2:=F0.out.2.2.1.fz 2
 have ne1_0_1:¬ w.heap.size=w.heap.size+1:=by omega
 have ne1_0_2:¬ w.heap.size=w.heap.size+1+1:=by omega
 have ne1_1_0:¬ w.heap.size+1=w.heap.size:=by omega
 have ne1_1_2:¬ w.heap.size+1=w.heap.size+1+1:=by omega
 have ne1_2_0:¬ w.heap.size+1+1=w.heap.size:=by omega
 have ne1_2_1:¬ w.heap.size+1+1=w.heap.size+1:=by omega
 go_wp2_with fail
 all_goals first | (exfalso;omega) | skip
 refine (HC _).mono ?_
 rintro o2 w2 ⟨rfl,bb⟩
 have F1:Hid (Bk w2 (w.heap.size) [.string u,vI o,.bool false]/\Bk w2 (w.heap.size+1) [.string s,vI p,.bool false]/\Bk w2 (w.heap.size+1+1) [.string t,vI q,.bool false]/\Bl w w2):=⟨(F0.out.1).step bb,(F0.out.2.1).step bb,(F0.out.2.2.1).step bb,(F0.out.2.2.2).trans (bb.mono (F0.out.2.2.2).size)⟩
 clear F0
 clear bb
 clear l1_0 a1_0_0 f1_0_0 a1_0_1 f1_0_1 a1_0_2 f1_0_2 l1_1 a1_1_0 f1_1_0 a1_1_1 f1_1_1 a1_1_2 f1_1_2 l1_2 a1_2_0 f1_2_0 a1_2_1 f1_2_1 a1_2_2 f1_2_2
 have l2_0:=F1.out.1.lt
 have a2_0_0:=F1.out.1.cell 0 _ rfl
 have f2_0_0:=F1.out.1.fz 0
 have a2_0_1:=F1.out.1.cell 1 _ rfl
 have f2_0_1:=F1.out.1.fz 1
 have a2_0_2:=F1.out.1.cell 2 _ rfl
 have f2_0_2:=F1.out.1.fz 2
 have l2_1:=F1.out.2.1.lt
 have a2_1_0:=F1.out.2.1.cell 0 _ rfl
 have f2_1_0:=F1.out.2.1.fz 0
 have a2_1_1:=F1.out.2.1.cell 1 _ rfl
 have f2_1_1:=F1.out.2.1.fz 1
 have a2_1_2:=F1.out.2.1.cell 2 _ rfl
 have f2_1_2:=F1.out.2.1.fz 2
 have l2_2:=F1.out.2.2.1.lt
 have a2_2_0:=F1.out.2.2.1.cell 0 _ rfl
 have f2_2_0:=F1.out.2.2.1.fz 0
 have a2_2_1:=F1.out.2.2.1.cell 1 _ rfl
 have f2_2_1:=F1.out.2.2.1.fz 1
 have a2_2_2:=F1.out.2.2.1.cell 2 _ rfl
 have f2_2_2:=F1.out.2.2.1.fz 2
 have ne2_0_1:¬ w.heap.size=w.heap.size+1:=by omega
 have ne2_0_2:¬ w.heap.size=w.heap.size+1+1:=by omega
 have ne2_1_0:¬ w.heap.size+1=w.heap.size:=by omega
 have ne2_1_2:¬ w.heap.size+1=w.heap.size+1+1:=by omega
 have ne2_2_0:¬ w.heap.size+1+1=w.heap.size:=by omega
 have ne2_2_1:¬ w.heap.size+1+1=w.heap.size+1:=by omega
 go_wp2_with fail
 all_goals first | (exfalso;omega) | skip
 refine (HD _).mono ?_
 rintro o3 w3 ⟨rfl,bb⟩
 have F2:Hid (Bk w3 (w.heap.size) [.string u,vI o,.bool false]/\Bk w3 (w.heap.size+1) [.string s,vI p,.bool false]/\Bk w3 (w.heap.size+1+1) [.string t,vI q,.bool false]/\Bl w w3):=⟨(F1.out.1).step bb,(F1.out.2.1).step bb,(F1.out.2.2.1).step bb,(F1.out.2.2.2).trans (bb.mono (F1.out.2.2.2).size)⟩
 clear F1
 clear bb
 clear l2_0 a2_0_0 f2_0_0 a2_0_1 f2_0_1 a2_0_2 f2_0_2 l2_1 a2_1_0 f2_1_0 a2_1_1 f2_1_1 a2_1_2 f2_1_2 l2_2 a2_2_0 f2_2_0 a2_2_1 f2_2_1 a2_2_2 f2_2_2
 have l3_0:=F2.out.1.lt
 have a3_0_0:=F2.out.1.cell 0 _ rfl
 have f3_0_0:=F2.out.1.fz 0
 have a3_0_1:=F2.out.1.cell 1 _ rfl
 have f3_0_1:=F2.out.1.fz 1
 have a3_0_2:=F2.out.1.cell 2 _ rfl
 have f3_0_2:=F2.out.1.fz 2
 have l3_1:=F2.out.2.1.lt
 have a3_1_0:=F2.out.2.1.cell 0 _ rfl
 have f3_1_0:=F2.out.2.1.fz 0
 have a3_1_1:=F2.out.2.1.cell 1 _ rfl
 have f3_1_1:=F2.out.2.1.fz 1
 have a3_1_2:=F2.out.2.1.cell 2 _ rfl
 have f3_1_2:=F2.out.2.1.fz 2
 have l3_2:=F2.out.2.2.1.lt
 have a3_2_0:=F2.out.2.2.1.cell 0 _ rfl
 have f3_2_0:=F2.out.2.2.1.fz 0
 have a3_2_1:=F2.out.2.2.1.cell 1 _ rfl
 have f3_2_1:=F2.out.2.2.1.fz 1
 have a3_2_2:=F2.out.2.2.1.cell 2 _ rfl
 have f3_2_2:=F2.out.2.2.1.fz 2
 have ne3_0_1:¬ w.heap.size=w.heap.size+1:=by omega
 have ne3_0_2:¬ w.heap.size=w.heap.size+1+1:=by omega
 have ne3_1_0:¬ w.heap.size+1=w.heap.size:=by omega
 have ne3_1_2:¬ w.heap.size+1=w.heap.size+1+1:=by omega
 have ne3_2_0:¬ w.heap.size+1+1=w.heap.size:=by omega
 have ne3_2_1:¬ w.heap.size+1+1=w.heap.size+1:=by omega
 go_wp2
 go_ret
 exact ⟨rfl,F2.out.2.2.2⟩
theorem aEs {s t u:ByteArray}{p q o l h:Int}(q1:l<0) (q3:h<0) (HC:∀ W,Cb 23 #[.agg #[.string s,vI p,.bool false],.agg #[.string u,vI o,.bool false]] W (.tuple #[vI l,vI 0])) (HD:∀ W,Cb 23 #[.agg #[.string u,vI o,.bool false],.agg #[.string t,vI q,.bool false]] W (.tuple #[vI h,vI 0])) (w:World) :
 Cb 48 #[.agg #[.string u,vI o,.bool false],.agg #[.string s,vI p,.bool false],.agg #[.string t,vI q,.bool false],.bool false] w (.bool true):=by
 have F0:Hid (Bk (((w.alloc (.cells #[.string u,vI o,.bool false] 24)).alloc (.cells #[.string s,vI p,.bool false] 24)).alloc (.cells #[.string t,vI q,.bool false] 24)) (w.heap.size) [.string u,vI o,.bool false]/\Bk (((w.alloc (.cells #[.string u,vI o,.bool false] 24)).alloc (.cells #[.string s,vI p,.bool false] 24)).alloc (.cells #[.string t,vI q,.bool false] 24)) (w.heap.size+1) [.string s,vI p,.bool false]/\Bk (((w.alloc (.cells #[.string u,vI o,.bool false] 24)).alloc (.cells #[.string s,vI p,.bool false] 24)).alloc (.cells #[.string t,vI q,.bool false] 24)) (w.heap.size+1+1) [.string t,vI q,.bool false]/\Bl w (((w.alloc (.cells #[.string u,vI o,.bool false] 24)).alloc (.cells #[.string s,vI p,.bool false] 24)).alloc (.cells #[.string t,vI q,.bool false] 24))):=⟨((Bk.new3 w (.string u) (vI o) (.bool false) 24).step (bz _ _)).step (bz _ _),(((by have q:=Bk.new3 (w.alloc (.cells #[.string u,vI o,.bool false] 24)) (.string s) (vI p) (.bool false) 24;simpa using q):Bk ((w.alloc (.cells #[.string u,vI o,.bool false] 24)).alloc (.cells #[.string s,vI p,.bool false] 24)) (w.heap.size+1) [.string s,vI p,.bool false])).step (bz _ _),((by have q:=Bk.new3 ((w.alloc (.cells #[.string u,vI o,.bool false] 24)).alloc (.cells #[.string s,vI p,.bool false] 24)) (.string t) (vI q) (.bool false) 24;simpa using q):Bk (((w.alloc (.cells #[.string u,vI o,.bool false] 24)).alloc (.cells #[.string s,vI p,.bool false] 24)).alloc (.cells #[.string t,vI q,.bool false] 24)) (w.heap.size+1+1) [.string t,vI q,.bool false]),((((Below.refl w.heap.size w)).alloc (Nat.le_refl _) _).alloc ((((Below.refl w.heap.size w)).alloc (Nat.le_refl _) _).size) _).alloc (((((Below.refl w.heap.size w)).alloc (Nat.le_refl _) _).alloc ((((Below.refl w.heap.size w)).alloc (Nat.le_refl _) _).size) _).size) _⟩
 go_enter Tryz.func48,Tryz.ntmps48
 go_upto_region 1 with fail
 generalize (((w.alloc (.cells #[.string u,vI o,.bool false] 24)).alloc (.cells #[.string s,vI p,.bool false] 24)).alloc (.cells #[.string t,vI q,.bool false] 24))=w1 at *
 have l1_0:=F0.out.1.lt
 have a1_0_0:=F0.out.1.cell 0 _ rfl
 have f1_0_0:=F0.out.1.fz 0
 have a1_0_1:=F0.out.1.cell 1 _ rfl
 have f1_0_1:=F0.out.1.fz 1
 have a1_0_2:=F0.out.1.cell 2 _ rfl
 have f1_0_2:=F0.out.1.fz 2
 have l1_1:=F0.out.2.1.lt
 have a1_1_0:=F0.out.2.1.cell 0 _ rfl
 have f1_1_0:=F0.out.2.1.fz 0
 have a1_1_1:=F0.out.2.1.cell 1 _ rfl
 have f1_1_1:=F0.out.2.1.fz 1
 have a1_1_2:=F0.out.2.1.cell 2 _ rfl
 have f1_1_2:=F0.out.2.1.fz 2
 have l1_2:=F0.out.2.2.1.lt
 have a1_2_0:=F0.out.2.2.1.cell 0 _ rfl
 have f1_2_0:=F0.out.2.2.1.fz 0
 have a1_2_1:=F0.out.2.2.1.cell 1 _ rfl
 have f1_2_1:=F0.out.2.2.1.fz 1
 have a1_2_2:=F0.out.2.2.1.cell 2 _ rfl
 have f1_2_2:=F0.out.2.2.1.fz 2
 have ne1_0_1:¬ w.heap.size=w.heap.size+1:=by omega
 have ne1_0_2:¬ w.heap.size=w.heap.size+1+1:=by omega
 have ne1_1_0:¬ w.heap.size+1=w.heap.size:=by omega
 have ne1_1_2:¬ w.heap.size+1=w.heap.size+1+1:=by omega
 have ne1_2_0:¬ w.heap.size+1+1=w.heap.size:=by omega
 have ne1_2_1:¬ w.heap.size+1+1=w.heap.size+1:=by omega
 go_wp2_with fail
 all_goals first | (exfalso;omega) | skip
 refine (HC _).mono ?_
 rintro o2 w2 ⟨rfl,bb⟩
 have F1:Hid (Bk w2 (w.heap.size) [.string u,vI o,.bool false]/\Bk w2 (w.heap.size+1) [.string s,vI p,.bool false]/\Bk w2 (w.heap.size+1+1) [.string t,vI q,.bool false]/\Bl w w2):=⟨(F0.out.1).step bb,(F0.out.2.1).step bb,(F0.out.2.2.1).step bb,(F0.out.2.2.2).trans (bb.mono (F0.out.2.2.2).size)⟩
 clear F0
 clear bb
 clear l1_0 a1_0_0 f1_0_0 a1_0_1 f1_0_1 a1_0_2 f1_0_2 l1_1 a1_1_0 f1_1_0 a1_1_1 f1_1_1 a1_1_2 f1_1_2 l1_2 a1_2_0 f1_2_0 a1_2_1 f1_2_1 a1_2_2 f1_2_2
 have l2_0:=F1.out.1.lt
 have a2_0_0:=F1.out.1.cell 0 _ rfl
 have f2_0_0:=F1.out.1.fz 0
 have a2_0_1:=F1.out.1.cell 1 _ rfl
 have f2_0_1:=F1.out.1.fz 1
 have a2_0_2:=F1.out.1.cell 2 _ rfl
 have f2_0_2:=F1.out.1.fz 2
 have l2_1:=F1.out.2.1.lt
 have a2_1_0:=F1.out.2.1.cell 0 _ rfl
 have f2_1_0:=F1.out.2.1.fz 0
 have a2_1_1:=F1.out.2.1.cell 1 _ rfl
 have f2_1_1:=F1.out.2.1.fz 1
 have a2_1_2:=F1.out.2.1.cell 2 _ rfl
 have f2_1_2:=F1.out.2.1.fz 2
 have l2_2:=F1.out.2.2.1.lt
 have a2_2_0:=F1.out.2.2.1.cell 0 _ rfl
 have f2_2_0:=F1.out.2.2.1.fz 0
 have a2_2_1:=F1.out.2.2.1.cell 1 _ rfl
 have f2_2_1:=F1.out.2.2.1.fz 1
 have a2_2_2:=F1.out.2.2.1.cell 2 _ rfl
 have f2_2_2:=F1.out.2.2.1.fz 2
 have ne2_0_1:¬ w.heap.size=w.heap.size+1:=by omega
 have ne2_0_2:¬ w.heap.size=w.heap.size+1+1:=by omega
 have ne2_1_0:¬ w.heap.size+1=w.heap.size:=by omega
 have ne2_1_2:¬ w.heap.size+1=w.heap.size+1+1:=by omega
 have ne2_2_0:¬ w.heap.size+1+1=w.heap.size:=by omega
 have ne2_2_1:¬ w.heap.size+1+1=w.heap.size+1:=by omega
 go_wp2_with fail
 all_goals first | (exfalso;omega) | skip
 refine (HD _).mono ?_
 rintro o3 w3 ⟨rfl,bb⟩
 have F2:Hid (Bk w3 (w.heap.size) [.string u,vI o,.bool false]/\Bk w3 (w.heap.size+1) [.string s,vI p,.bool false]/\Bk w3 (w.heap.size+1+1) [.string t,vI q,.bool false]/\Bl w w3):=⟨(F1.out.1).step bb,(F1.out.2.1).step bb,(F1.out.2.2.1).step bb,(F1.out.2.2.2).trans (bb.mono (F1.out.2.2.2).size)⟩
 clear F1
 clear bb
 clear l2_0 a2_0_0 f2_0_0 a2_0_1 f2_0_1 a2_0_2 f2_0_2 l2_1 a2_1_0 f2_1_0 a2_1_1 f2_1_1 a2_1_2 f2_1_2 l2_2 a2_2_0 f2_2_0 a2_2_1 f2_2_1 a2_2_2 f2_2_2
 have l3_0:=F2.out.1.lt
 have a3_0_0:=F2.out.1.cell 0 _ rfl
 have f3_0_0:=F2.out.1.fz 0
 have a3_0_1:=F2.out.1.cell 1 _ rfl
 have f3_0_1:=F2.out.1.fz 1
 have a3_0_2:=F2.out.1.cell 2 _ rfl
 have f3_0_2:=F2.out.1.fz 2
 have l3_1:=F2.out.2.1.lt
 have a3_1_0:=F2.out.2.1.cell 0 _ rfl
 have f3_1_0:=F2.out.2.1.fz 0
 have a3_1_1:=F2.out.2.1.cell 1 _ rfl
 have f3_1_1:=F2.out.2.1.fz 1
 have a3_1_2:=F2.out.2.1.cell 2 _ rfl
 have f3_1_2:=F2.out.2.1.fz 2
 have l3_2:=F2.out.2.2.1.lt
 have a3_2_0:=F2.out.2.2.1.cell 0 _ rfl
 have f3_2_0:=F2.out.2.2.1.fz 0
 have a3_2_1:=F2.out.2.2.1.cell 1 _ rfl
 have f3_2_1:=F2.out.2.2.1.fz 1
 have a3_2_2:=F2.out.2.2.1.cell 2 _ rfl
 have f3_2_2:=F2.out.2.2.1.fz 2
 have ne3_0_1:¬ w.heap.size=w.heap.size+1:=by omega
 have ne3_0_2:¬ w.heap.size=w.heap.size+1+1:=by omega
 have ne3_1_0:¬ w.heap.size+1=w.heap.size:=by omega
 have ne3_1_2:¬ w.heap.size+1=w.heap.size+1+1:=by omega
 have ne3_2_0:¬ w.heap.size+1+1=w.heap.size:=by omega
 have ne3_2_1:¬ w.heap.size+1+1=w.heap.size+1:=by omega
 go_wp2
 go_ret
 exact ⟨rfl,F2.out.2.2.2⟩
theorem aEt {s t u:ByteArray}{p q o l h:Int}(q1:l<0) (q3:¬ h<0) (HC:∀ W,Cb 23 #[.agg #[.string s,vI p,.bool false],.agg #[.string u,vI o,.bool false]] W (.tuple #[vI l,vI 0])) (HD:∀ W,Cb 23 #[.agg #[.string u,vI o,.bool false],.agg #[.string t,vI q,.bool false]] W (.tuple #[vI h,vI 0])) (w:World) :
 Cb 48 #[.agg #[.string u,vI o,.bool false],.agg #[.string s,vI p,.bool false],.agg #[.string t,vI q,.bool false],.bool false] w (.bool (decide (h<0))):=by
 have F0:Hid (Bk (((w.alloc (.cells #[.string u,vI o,.bool false] 24)).alloc (.cells #[.string s,vI p,.bool false] 24)).alloc (.cells #[.string t,vI q,.bool false] 24)) (w.heap.size) [.string u,vI o,.bool false]/\Bk (((w.alloc (.cells #[.string u,vI o,.bool false] 24)).alloc (.cells #[.string s,vI p,.bool false] 24)).alloc (.cells #[.string t,vI q,.bool false] 24)) (w.heap.size+1) [.string s,vI p,.bool false]/\Bk (((w.alloc (.cells #[.string u,vI o,.bool false] 24)).alloc (.cells #[.string s,vI p,.bool false] 24)).alloc (.cells #[.string t,vI q,.bool false] 24)) (w.heap.size+1+1) [.string t,vI q,.bool false]/\Bl w (((w.alloc (.cells #[.string u,vI o,.bool false] 24)).alloc (.cells #[.string s,vI p,.bool false] 24)).alloc (.cells #[.string t,vI q,.bool false] 24))):=⟨((Bk.new3 w (.string u) (vI o) (.bool false) 24).step (bz _ _)).step (bz _ _),(((by have q:=Bk.new3 (w.alloc (.cells #[.string u,vI o,.bool false] 24)) (.string s) (vI p) (.bool false) 24;simpa using q):Bk ((w.alloc (.cells #[.string u,vI o,.bool false] 24)).alloc (.cells #[.string s,vI p,.bool false] 24)) (w.heap.size+1) [.string s,vI p,.bool false])).step (bz _ _),((by have q:=Bk.new3 ((w.alloc (.cells #[.string u,vI o,.bool false] 24)).alloc (.cells #[.string s,vI p,.bool false] 24)) (.string t) (vI q) (.bool false) 24;simpa using q):Bk (((w.alloc (.cells #[.string u,vI o,.bool false] 24)).alloc (.cells #[.string s,vI p,.bool false] 24)).alloc (.cells #[.string t,vI q,.bool false] 24)) (w.heap.size+1+1) [.string t,vI q,.bool false]),((((Below.refl w.heap.size w)).alloc (Nat.le_refl _) _).alloc ((((Below.refl w.heap.size w)).alloc (Nat.le_refl _) _).size) _).alloc (((((Below.refl w.heap.size w)).alloc (Nat.le_refl _) _).alloc ((((Below.refl w.heap.size w)).alloc (Nat.le_refl _) _).size) _).size) _⟩
 go_enter Tryz.func48,Tryz.ntmps48
 go_upto_region 1 with fail
 generalize (((w.alloc (.cells #[.string u,vI o,.bool false] 24)).alloc (.cells #[.string s,vI p,.bool false] 24)).alloc (.cells #[.string t,vI q,.bool false] 24))=w1 at *
 have l1_0:=F0.out.1.lt
 have a1_0_0:=F0.out.1.cell 0 _ rfl
 have f1_0_0:=F0.out.1.fz 0
 have a1_0_1:=F0.out.1.cell 1 _ rfl
 have f1_0_1:=F0.out.1.fz 1
 have a1_0_2:=F0.out.1.cell 2 _ rfl
 have f1_0_2:=F0.out.1.fz 2
 have l1_1:=F0.out.2.1.lt
 have a1_1_0:=F0.out.2.1.cell 0 _ rfl
 have f1_1_0:=F0.out.2.1.fz 0
 have a1_1_1:=F0.out.2.1.cell 1 _ rfl
 have f1_1_1:=F0.out.2.1.fz 1
 have a1_1_2:=F0.out.2.1.cell 2 _ rfl
 have f1_1_2:=F0.out.2.1.fz 2
 have l1_2:=F0.out.2.2.1.lt
 have a1_2_0:=F0.out.2.2.1.cell 0 _ rfl
 have f1_2_0:=F0.out.2.2.1.fz 0
 have a1_2_1:=F0.out.2.2.1.cell 1 _ rfl
 have f1_2_1:=F0.out.2.2.1.fz 1
 have a1_2_2:=F0.out.2.2.1.cell 2 _ rfl
 have f1_2_2:=F0.out.2.2.1.fz 2
 have ne1_0_1:¬ w.heap.size=w.heap.size+1:=by omega
 have ne1_0_2:¬ w.heap.size=w.heap.size+1+1:=by omega
 have ne1_1_0:¬ w.heap.size+1=w.heap.size:=by omega
 have ne1_1_2:¬ w.heap.size+1=w.heap.size+1+1:=by omega
 have ne1_2_0:¬ w.heap.size+1+1=w.heap.size:=by omega
 have ne1_2_1:¬ w.heap.size+1+1=w.heap.size+1:=by omega
 go_wp2_with fail
 all_goals first | (exfalso;omega) | skip
 refine (HC _).mono ?_
 rintro o2 w2 ⟨rfl,bb⟩
 have F1:Hid (Bk w2 (w.heap.size) [.string u,vI o,.bool false]/\Bk w2 (w.heap.size+1) [.string s,vI p,.bool false]/\Bk w2 (w.heap.size+1+1) [.string t,vI q,.bool false]/\Bl w w2):=⟨(F0.out.1).step bb,(F0.out.2.1).step bb,(F0.out.2.2.1).step bb,(F0.out.2.2.2).trans (bb.mono (F0.out.2.2.2).size)⟩
 clear F0
 clear bb
 clear l1_0 a1_0_0 f1_0_0 a1_0_1 f1_0_1 a1_0_2 f1_0_2 l1_1 a1_1_0 f1_1_0 a1_1_1 f1_1_1 a1_1_2 f1_1_2 l1_2 a1_2_0 f1_2_0 a1_2_1 f1_2_1 a1_2_2 f1_2_2
 have l2_0:=F1.out.1.lt
 have a2_0_0:=F1.out.1.cell 0 _ rfl
 have f2_0_0:=F1.out.1.fz 0
 have a2_0_1:=F1.out.1.cell 1 _ rfl
 have f2_0_1:=F1.out.1.fz 1
 have a2_0_2:=F1.out.1.cell 2 _ rfl
 have f2_0_2:=F1.out.1.fz 2
 have l2_1:=F1.out.2.1.lt
 have a2_1_0:=F1.out.2.1.cell 0 _ rfl
 have f2_1_0:=F1.out.2.1.fz 0
 have a2_1_1:=F1.out.2.1.cell 1 _ rfl
 have f2_1_1:=F1.out.2.1.fz 1
 have a2_1_2:=F1.out.2.1.cell 2 _ rfl
 have f2_1_2:=F1.out.2.1.fz 2
 have l2_2:=F1.out.2.2.1.lt
 have a2_2_0:=F1.out.2.2.1.cell 0 _ rfl
 have f2_2_0:=F1.out.2.2.1.fz 0
 have a2_2_1:=F1.out.2.2.1.cell 1 _ rfl
 have f2_2_1:=F1.out.2.2.1.fz 1
 have a2_2_2:=F1.out.2.2.1.cell 2 _ rfl
 have f2_2_2:=F1.out.2.2.1.fz 2
 have ne2_0_1:¬ w.heap.size=w.heap.size+1:=by omega
 have ne2_0_2:¬ w.heap.size=w.heap.size+1+1:=by omega
 have ne2_1_0:¬ w.heap.size+1=w.heap.size:=by omega
 have ne2_1_2:¬ w.heap.size+1=w.heap.size+1+1:=by omega
 have ne2_2_0:¬ w.heap.size+1+1=w.heap.size:=by omega
 have ne2_2_1:¬ w.heap.size+1+1=w.heap.size+1:=by omega
 go_wp2_with fail
 all_goals first | (exfalso;omega) | skip
 refine (HD _).mono ?_
 rintro o3 w3 ⟨rfl,bb⟩
 have F2:Hid (Bk w3 (w.heap.size) [.string u,vI o,.bool false]/\Bk w3 (w.heap.size+1) [.string s,vI p,.bool false]/\Bk w3 (w.heap.size+1+1) [.string t,vI q,.bool false]/\Bl w w3):=⟨(F1.out.1).step bb,(F1.out.2.1).step bb,(F1.out.2.2.1).step bb,(F1.out.2.2.2).trans (bb.mono (F1.out.2.2.2).size)⟩
 clear F1
 clear bb
 clear l2_0 a2_0_0 f2_0_0 a2_0_1 f2_0_1 a2_0_2 f2_0_2 l2_1 a2_1_0 f2_1_0 a2_1_1 f2_1_1 a2_1_2 f2_1_2 l2_2 a2_2_0 f2_2_0 a2_2_1 f2_2_1 a2_2_2 f2_2_2
 have l3_0:=F2.out.1.lt
 have a3_0_0:=F2.out.1.cell 0 _ rfl
 have f3_0_0:=F2.out.1.fz 0
 have a3_0_1:=F2.out.1.cell 1 _ rfl
 have f3_0_1:=F2.out.1.fz 1
 have a3_0_2:=F2.out.1.cell 2 _ rfl
 have f3_0_2:=F2.out.1.fz 2
 have l3_1:=F2.out.2.1.lt
 have a3_1_0:=F2.out.2.1.cell 0 _ rfl
 have f3_1_0:=F2.out.2.1.fz 0
 have a3_1_1:=F2.out.2.1.cell 1 _ rfl
 have f3_1_1:=F2.out.2.1.fz 1
 have a3_1_2:=F2.out.2.1.cell 2 _ rfl
 have f3_1_2:=F2.out.2.1.fz 2
 have l3_2:=F2.out.2.2.1.lt
 have a3_2_0:=F2.out.2.2.1.cell 0 _ rfl
 have f3_2_0:=F2.out.2.2.1.fz 0
 have a3_2_1:=F2.out.2.2.1.cell 1 _ rfl
 have f3_2_1:=F2.out.2.2.1.fz 1
 have a3_2_2:=F2.out.2.2.1.cell 2 _ rfl
 have f3_2_2:=F2.out.2.2.1.fz 2
 have ne3_0_1:¬ w.heap.size=w.heap.size+1:=by omega
 have ne3_0_2:¬ w.heap.size=w.heap.size+1+1:=by omega
 have ne3_1_0:¬ w.heap.size+1=w.heap.size:=by omega
 have ne3_1_2:¬ w.heap.size+1=w.heap.size+1+1:=by omega
 have ne3_2_0:¬ w.heap.size+1+1=w.heap.size:=by omega
 have ne3_2_1:¬ w.heap.size+1+1=w.heap.size+1:=by omega
 go_wp2
 go_ret
 exact ⟨rfl,F2.out.2.2.2⟩
theorem aEz {s t u:ByteArray}{p q o l h:Int}(q1:¬ l<0)  (HC:∀ W,Cb 23 #[.agg #[.string s,vI p,.bool false],.agg #[.string u,vI o,.bool false]] W (.tuple #[vI l,vI 0])) (HD:∀ W,Cb 23 #[.agg #[.string u,vI o,.bool false],.agg #[.string t,vI q,.bool false]] W (.tuple #[vI h,vI 0])) (w:World) :
 Cb 48 #[.agg #[.string u,vI o,.bool false],.agg #[.string s,vI p,.bool false],.agg #[.string t,vI q,.bool false],.bool false] w (.bool false):=by
 have F0:Hid (Bk (((w.alloc (.cells #[.string u,vI o,.bool false] 24)).alloc (.cells #[.string s,vI p,.bool false] 24)).alloc (.cells #[.string t,vI q,.bool false] 24)) (w.heap.size) [.string u,vI o,.bool false]/\Bk (((w.alloc (.cells #[.string u,vI o,.bool false] 24)).alloc (.cells #[.string s,vI p,.bool false] 24)).alloc (.cells #[.string t,vI q,.bool false] 24)) (w.heap.size+1) [.string s,vI p,.bool false]/\Bk (((w.alloc (.cells #[.string u,vI o,.bool false] 24)).alloc (.cells #[.string s,vI p,.bool false] 24)).alloc (.cells #[.string t,vI q,.bool false] 24)) (w.heap.size+1+1) [.string t,vI q,.bool false]/\Bl w (((w.alloc (.cells #[.string u,vI o,.bool false] 24)).alloc (.cells #[.string s,vI p,.bool false] 24)).alloc (.cells #[.string t,vI q,.bool false] 24))):=⟨((Bk.new3 w (.string u) (vI o) (.bool false) 24).step (bz _ _)).step (bz _ _),(((by have q:=Bk.new3 (w.alloc (.cells #[.string u,vI o,.bool false] 24)) (.string s) (vI p) (.bool false) 24;simpa using q):Bk ((w.alloc (.cells #[.string u,vI o,.bool false] 24)).alloc (.cells #[.string s,vI p,.bool false] 24)) (w.heap.size+1) [.string s,vI p,.bool false])).step (bz _ _),((by have q:=Bk.new3 ((w.alloc (.cells #[.string u,vI o,.bool false] 24)).alloc (.cells #[.string s,vI p,.bool false] 24)) (.string t) (vI q) (.bool false) 24;simpa using q):Bk (((w.alloc (.cells #[.string u,vI o,.bool false] 24)).alloc (.cells #[.string s,vI p,.bool false] 24)).alloc (.cells #[.string t,vI q,.bool false] 24)) (w.heap.size+1+1) [.string t,vI q,.bool false]),((((Below.refl w.heap.size w)).alloc (Nat.le_refl _) _).alloc ((((Below.refl w.heap.size w)).alloc (Nat.le_refl _) _).size) _).alloc (((((Below.refl w.heap.size w)).alloc (Nat.le_refl _) _).alloc ((((Below.refl w.heap.size w)).alloc (Nat.le_refl _) _).size) _).size) _⟩
 go_enter Tryz.func48,Tryz.ntmps48
 go_upto_region 1 with fail
 generalize (((w.alloc (.cells #[.string u,vI o,.bool false] 24)).alloc (.cells #[.string s,vI p,.bool false] 24)).alloc (.cells #[.string t,vI q,.bool false] 24))=w1 at *
 have l1_0:=F0.out.1.lt
 have a1_0_0:=F0.out.1.cell 0 _ rfl
 have f1_0_0:=F0.out.1.fz 0
 have a1_0_1:=F0.out.1.cell 1 _ rfl
 have f1_0_1:=F0.out.1.fz 1
 have a1_0_2:=F0.out.1.cell 2 _ rfl
 have f1_0_2:=F0.out.1.fz 2
 have l1_1:=F0.out.2.1.lt
 have a1_1_0:=F0.out.2.1.cell 0 _ rfl
 have f1_1_0:=F0.out.2.1.fz 0
 have a1_1_1:=F0.out.2.1.cell 1 _ rfl
 have f1_1_1:=F0.out.2.1.fz 1
 have a1_1_2:=F0.out.2.1.cell 2 _ rfl
 have f1_1_2:=F0.out.2.1.fz 2
 have l1_2:=F0.out.2.2.1.lt
 have a1_2_0:=F0.out.2.2.1.cell 0 _ rfl
 have f1_2_0:=F0.out.2.2.1.fz 0
 have a1_2_1:=F0.out.2.2.1.cell 1 _ rfl
 have f1_2_1:=F0.out.2.2.1.fz 1
 have a1_2_2:=F0.out.2.2.1.cell 2 _ rfl
 have f1_2_2:=F0.out.2.2.1.fz 2
 have ne1_0_1:¬ w.heap.size=w.heap.size+1:=by omega
 have ne1_0_2:¬ w.heap.size=w.heap.size+1+1:=by omega
 have ne1_1_0:¬ w.heap.size+1=w.heap.size:=by omega
 have ne1_1_2:¬ w.heap.size+1=w.heap.size+1+1:=by omega
 have ne1_2_0:¬ w.heap.size+1+1=w.heap.size:=by omega
 have ne1_2_1:¬ w.heap.size+1+1=w.heap.size+1:=by omega
 go_wp2_with fail
 all_goals first | (exfalso;omega) | skip
 refine (HC _).mono ?_
 rintro o2 w2 ⟨rfl,bb⟩
 have F1:Hid (Bk w2 (w.heap.size) [.string u,vI o,.bool false]/\Bk w2 (w.heap.size+1) [.string s,vI p,.bool false]/\Bk w2 (w.heap.size+1+1) [.string t,vI q,.bool false]/\Bl w w2):=⟨(F0.out.1).step bb,(F0.out.2.1).step bb,(F0.out.2.2.1).step bb,(F0.out.2.2.2).trans (bb.mono (F0.out.2.2.2).size)⟩
 clear F0
 clear bb
 clear l1_0 a1_0_0 f1_0_0 a1_0_1 f1_0_1 a1_0_2 f1_0_2 l1_1 a1_1_0 f1_1_0 a1_1_1 f1_1_1 a1_1_2 f1_1_2 l1_2 a1_2_0 f1_2_0 a1_2_1 f1_2_1 a1_2_2 f1_2_2
 have l2_0:=F1.out.1.lt
 have a2_0_0:=F1.out.1.cell 0 _ rfl
 have f2_0_0:=F1.out.1.fz 0
 have a2_0_1:=F1.out.1.cell 1 _ rfl
 have f2_0_1:=F1.out.1.fz 1
 have a2_0_2:=F1.out.1.cell 2 _ rfl
 have f2_0_2:=F1.out.1.fz 2
 have l2_1:=F1.out.2.1.lt
 have a2_1_0:=F1.out.2.1.cell 0 _ rfl
 have f2_1_0:=F1.out.2.1.fz 0
 have a2_1_1:=F1.out.2.1.cell 1 _ rfl
 have f2_1_1:=F1.out.2.1.fz 1
 have a2_1_2:=F1.out.2.1.cell 2 _ rfl
 have f2_1_2:=F1.out.2.1.fz 2
 have l2_2:=F1.out.2.2.1.lt
 have a2_2_0:=F1.out.2.2.1.cell 0 _ rfl
 have f2_2_0:=F1.out.2.2.1.fz 0
 have a2_2_1:=F1.out.2.2.1.cell 1 _ rfl
 have f2_2_1:=F1.out.2.2.1.fz 1
 have a2_2_2:=F1.out.2.2.1.cell 2 _ rfl
 have f2_2_2:=F1.out.2.2.1.fz 2
 have ne2_0_1:¬ w.heap.size=w.heap.size+1:=by omega
 have ne2_0_2:¬ w.heap.size=w.heap.size+1+1:=by omega
 have ne2_1_0:¬ w.heap.size+1=w.heap.size:=by omega
 have ne2_1_2:¬ w.heap.size+1=w.heap.size+1+1:=by omega
 have ne2_2_0:¬ w.heap.size+1+1=w.heap.size:=by omega
 have ne2_2_1:¬ w.heap.size+1+1=w.heap.size+1:=by omega
 go_wp2_with fail
 all_goals first | (exfalso;omega) | skip
 refine (HD _).mono ?_
 rintro o3 w3 ⟨rfl,bb⟩
 have F2:Hid (Bk w3 (w.heap.size) [.string u,vI o,.bool false]/\Bk w3 (w.heap.size+1) [.string s,vI p,.bool false]/\Bk w3 (w.heap.size+1+1) [.string t,vI q,.bool false]/\Bl w w3):=⟨(F1.out.1).step bb,(F1.out.2.1).step bb,(F1.out.2.2.1).step bb,(F1.out.2.2.2).trans (bb.mono (F1.out.2.2.2).size)⟩
 clear F1
 clear bb
 clear l2_0 a2_0_0 f2_0_0 a2_0_1 f2_0_1 a2_0_2 f2_0_2 l2_1 a2_1_0 f2_1_0 a2_1_1 f2_1_1 a2_1_2 f2_1_2 l2_2 a2_2_0 f2_2_0 a2_2_1 f2_2_1 a2_2_2 f2_2_2
 have l3_0:=F2.out.1.lt
 have a3_0_0:=F2.out.1.cell 0 _ rfl
 have f3_0_0:=F2.out.1.fz 0
 have a3_0_1:=F2.out.1.cell 1 _ rfl
 have f3_0_1:=F2.out.1.fz 1
 have a3_0_2:=F2.out.1.cell 2 _ rfl
 have f3_0_2:=F2.out.1.fz 2
 have l3_1:=F2.out.2.1.lt
 have a3_1_0:=F2.out.2.1.cell 0 _ rfl
 have f3_1_0:=F2.out.2.1.fz 0
 have a3_1_1:=F2.out.2.1.cell 1 _ rfl
 have f3_1_1:=F2.out.2.1.fz 1
 have a3_1_2:=F2.out.2.1.cell 2 _ rfl
 have f3_1_2:=F2.out.2.1.fz 2
 have l3_2:=F2.out.2.2.1.lt
 have a3_2_0:=F2.out.2.2.1.cell 0 _ rfl
 have f3_2_0:=F2.out.2.2.1.fz 0
 have a3_2_1:=F2.out.2.2.1.cell 1 _ rfl
 have f3_2_1:=F2.out.2.2.1.fz 1
 have a3_2_2:=F2.out.2.2.1.cell 2 _ rfl
 have f3_2_2:=F2.out.2.2.1.fz 2
 have ne3_0_1:¬ w.heap.size=w.heap.size+1:=by omega
 have ne3_0_2:¬ w.heap.size=w.heap.size+1+1:=by omega
 have ne3_1_0:¬ w.heap.size+1=w.heap.size:=by omega
 have ne3_1_2:¬ w.heap.size+1=w.heap.size+1+1:=by omega
 have ne3_2_0:¬ w.heap.size+1+1=w.heap.size:=by omega
 have ne3_2_1:¬ w.heap.size+1+1=w.heap.size+1:=by omega
 go_wp2
 go_ret
 exact ⟨rfl,F2.out.2.2.2⟩
theorem uJ {s t u:ByteArray}{p q o l h:Int}{c:Bool}(HC:∀ W,Cb 23 #[.agg #[.string s,vI p,.bool false],.agg #[.string u,vI o,.bool false]] W (.tuple #[vI l,vI 0])) (HD:∀ W,Cb 23 #[.agg #[.string u,vI o,.bool false],.agg #[.string t,vI q,.bool false]] W (.tuple #[vI h,vI 0])) (w:World) :
 Cb 48 #[.agg #[.string u,vI o,.bool false],.agg #[.string s,vI p,.bool false],.agg #[.string t,vI q,.bool false],.bool c] w (.bool (inB c (-l) h)):=by
 unfold inB
 cases c
 . rw [if_neg (by decide)]
   by_cases q1:l<0
   . rw [decide_eq_true (show 0 < -l by omega),Bool.true_and]
     by_cases q3:h<0
     . rw [decide_eq_true q3];exact aEs q1 q3 HC HD w
     . exact aEt q1 q3 HC HD w
   . rw [decide_eq_false (show ¬ 0 < -l by omega),Bool.false_and];exact aEz q1 HC HD w
 . rw [if_pos rfl]
   by_cases q1:l<=0
   . rw [decide_eq_true (show 0 <= -l by omega),Bool.true_and]
     by_cases q2:l<0
     . have e:decide (h<=0)=(decide (h<0) || decide (h<=0)):=by
        by_cases q3:h<0
        . rw [decide_eq_true q3,Bool.true_or];exact decide_eq_true (by omega)
        . rw [decide_eq_false q3,Bool.false_or]
       by_cases q3:h<0
       . rw [decide_eq_true (show h<=0 by omega)];exact aEp q2 q3 HC HD w
       . rw [e];exact aEq q1 q2 q3 HC HD w
     . exact aEr q1 q2 HC HD w
   . rw [decide_eq_false (show ¬ 0 <= -l by omega),Bool.false_and];exact aEo q1 HC HD w
def aS     (f : Nat → Option Dp) : Nat → Nat → Option Dp
  | _, 0 => none
  | n, k + 1 => match f n with
    | some d => some d
    | none => aS     f (n + 1) k
theorem eC         (hb : Dp → Bool) (cand : Nat → List Dp) : ∀ k n, aX    hb cand n k = aS     (fun m => (cand m).find? hb) n k
  | 0, _ => rfl
  | k + 1, n => by
    unfold aX    aS
    cases (cand n).find? hb with
    | some d => rfl
    | none => exact eC         hb cand k (n + 1)
theorem fH          {f g : Nat → Option Dp} : ∀ k n, (∀ m, n ≤ m → m < n + k → f m = g m) → aS     f n k = aS     g n k
  | 0, _, _ => rfl
  | k + 1, n, h => by
    unfold aS
    rw [h n (Nat.le_refl _) (by omega), fH          k (n + 1) (fun m a b => h m (by omega) (by omega))]
theorem aCz {b:Nat}{z n:Int}(h:Bad b z n) (w:World):Cb 50 #[vU (b:Int),vI z] w (.tuple #[dcV ⟨#[]⟩ 0 false,dcV ⟨#[]⟩ 0 false,.bool false,.iface 69 (vI n)]) :=
 aCA (fun W=>aAP (fun W=>aBx h W) W) w
theorem aCk {b:Nat}{z n:Int}(h:Bad b z n) (w:World):Cb 28 #[vU (b:Int),vI z] w (.tuple #[.agg #[.string ⟨#[]⟩,vI 0,.bool false,.string ⟨#[]⟩,vI 0,.bool false,.bool false],dcV ⟨#[]⟩ 0 false,.iface 69 (vI n)]) :=
 aCl (fun W=>aCz h W) w
theorem xT {z:Int}{f T:Nat}{L:Int}{S I b:Nat}(h:Fn z f T L S I b) {u s t:ByteArray}{o p q:Int}(G:Dx u o (vlF f L (mg S b))) (D:Dx s p (loF f L (mg S b))) (E:Dx t q (hiF f L (mg S b))) (w:World) :
 Cb 28 #[vU (b:Int),vI z] w (.tuple #[.agg #[.string s,vI p,.bool false,.string t,vI q,.bool false,.bool (decide (b % 2=0))],dcV u o false,.nilIface]) :=
 aDD (fun W=>aDW h D E W) (fun W=>aD5 h G W) w
theorem Fl.near {z:Int}{f T:Nat}{L:Int}{S I b:Nat}{u:ByteArray}{o:Int}{s:ByteArray}{p:Int}{t:ByteArray}{q:Int}{A:Nat}{d1 d2:Nat -> Dp}(h:Fl z f T L S I b u o s p t q A d1 d2) (c:Bool) {few many:Nat}(h1:1<=few) (fm:few<=many) (h2:many<=17) (w:World) :
 Cb 29 #[.agg #[.string s,vI p,.bool false,.string t,vI q,.bool false,.bool c],dcV u o false,vI (few:Int),vI (many:Int)] w (fG (aS (fD c s p t q u d1 d2) few (many+1 - few))):=by
 have g:=h.g.vn h.pos
 have r:=oY (c:=c) (u:=u) (o:=o) h.d.vd h.e.vd fm (by omega) (r:=rC u d1 d2) (g:=d2) (fun n a b=>by
  have k:=h.rc (show 1<=n by omega) (by omega)
  obtain ⟨_,_,_,c4⟩:=h.c n (by omega) (by omega)
  exact ⟨k.vd,c4.vd⟩) (fun n a b W=>by
  obtain ⟨c1,du,_,_⟩:=h.c n (by omega) (by omega)
  have k:=zN g h.o1 (by omega) du W
  unfold rC
  by_cases q:n<u.size/\upB u false n=true
  . rw [if_pos q] at k ⊢;exact k
  . rw [if_neg q] at k ⊢;rw [c1];exact k) (fun n a b W=>by
  obtain ⟨c1,du,_,_⟩:=h.c n (by omega) (by omega)
  exact aD4 g h.o1 (by omega) du W) w
 rw [eC] at r
 exact r
theorem Fl.first {z : Int} {f T : Nat} {L : Int} {S I b : Nat} {u : ByteArray} {o : Int} {s : ByteArray} {p : Int} {t : ByteArray} {q : Int} {A : Nat} {d1 d2 : Nat → Dp} (h : Fl z f T L S I b u o s p t q A d1 d2) (c : Bool) : ∃ N d, aS     (fD c s p t q u d1 d2) 1 17 = some d ∧ 1 ≤ N ∧ N ≤ (if z = 32 then 9 else 17) ∧ fD c s p t q u d1 d2 N = some d ∧ ∀ m, 1 ≤ m → m < N → fD c s p t q u d1 d2 m = none := by
  obtain ⟨M, hM, M1, dM, eM⟩ : ∃ M : Nat, M = (if z = 32 then 9 else 17) ∧ M ≤ 17 ∧ ∃ d, fD c s p t q u d1 d2 M = some d := by
    rcases h.fn.sf with ⟨rfl, rfl, rfl, rfl, rfl, rfl⟩ | ⟨rfl, rfl, rfl, rfl, rfl, rfl⟩
    · obtain ⟨d, e⟩ := h.there c (N := 9) (by decide) (by decide) (by decide)
      exact ⟨9, rfl, by decide, d, e⟩
    · obtain ⟨d, e⟩ := h.there c (N := 17) (by decide) (by decide) (by decide)
      exact ⟨17, rfl, by decide, d, e⟩
  have key : ∀ k n, n ≤ M → M < n + k → (∀ m, 1 ≤ m → m < n → fD c s p t q u d1 d2 m = none) → 1 ≤ n → ∃ N d, aS     (fD c s p t q u d1 d2) n k = some d ∧ 1 ≤ N ∧ N ≤ M ∧ fD c s p t q u d1 d2 N = some d ∧ ∀ m, 1 ≤ m → m < N → fD c s p t q u d1 d2 m = none := by
    intro k
    induction k with
    | zero => intro n a b _ _; omega
    | succ k ih =>
      intro n a b hn n1
      unfold aS
      cases e : fD c s p t q u d1 d2 n with
      | some d => exact ⟨n, d, rfl, n1, a, e, hn⟩
      | none =>
        have nM : n ≠ M := by
          rintro rfl
          rw [e] at eM
          cases eM
        exact ih (n + 1) (by omega) (by omega) (fun m m1 m2 => by
          rcases Nat.lt_or_ge m n with q | q
          · exact hn m m1 q
          · rw [show m = n by omega]; exact e) (by omega)
  obtain ⟨N, d, k1, k2, k3, k4, k5⟩ := key 17 1 (by rw [hM]; split <;> omega) (by omega) (fun m a b => by omega) (Nat.le_refl 1)
  exact ⟨N, d, k1, k2, by rw [← hM]; exact k3, k4, k5⟩
theorem Fl.digits {z:Int}{f T:Nat}{L:Int}{S I b:Nat}{u:ByteArray}{o:Int}{s:ByteArray}{p:Int}{t:ByteArray}{q:Int}{A:Nat}{d1 d2:Nat -> Dp}(h:Fl z f T L S I b u o s p t q A d1 d2) {d:Dp}(hd:aS (fD (decide (b % 2=0)) s p t q u d1 d2) 1 17=some d) (w:World) :
 Cb 8 #[vU (b:Int),vI z] w (.tuple #[dcV d.1 d.2 false,.nilIface]) :=
 xP (fun W=>xT h.fn h.g h.d h.e W) (fun W=>by
  have r:=h.near (decide (b % 2=0)) (few:=1) (many:=17) (by omega) (by omega) (by omega) W
  rw [show 17+1 - 1=17 from rfl,hd] at r
  exact r) w
theorem aBB {z:Int}{f T:Nat}{L:Int}{S I b:Nat}(h:Fn z f T L S I b) (m0:mg S b=0) (w:World):Cb 8 #[vU (b:Int),vI z] w (.tuple #[dcV ⟨#[]⟩ 0 false,.nilIface]):=by
 obtain ⟨⟨s,p,D⟩,⟨t,q,E⟩,u,o,G⟩:=Fn.has h
 have D0:=D
 have G0:=G
 rw [m0,sC] at G0
 rw [m0] at D0
 obtain ⟨rfl,rfl⟩:=Dx.uniq G0 aW
 obtain ⟨rfl,rfl⟩:=Dx.uniq D0 aW
 have z0:VD ⟨#[]⟩ 0 false:=aW.vd
 have ev:b % 2=0:=by
  obtain ⟨_,_,_,_,s2,_,_⟩:=h.sf.fs
  unfold mg at m0
  have:=Nat.div_add_mod b S
  rw [m0,Nat.add_zero] at this
  rw [<- this,Nat.mul_mod,s2]
  simp
 refine xP (fun W=>xT h G D E W) (k:=true) (fun W=>?_) w
 have MR0:∀ n:Nat,n<=17 -> ∀ k,MR ⟨#[]⟩ 0 false (n:Int) k:=fun n hn k=>⟨z0,by omega,by omega,fun y=>by cases y⟩
 have on:∀ n:Nat,onB ⟨#[]⟩ false (n:Int)=false:=fun n=>by unfold onB;rw [Bool.false_or];exact decide_eq_false (by show ¬ (n:Int)<((0:Nat):Int);omega)
 have r:=oY (c:=decide (b % 2=0)) (u:=⟨#[]⟩) (o:=0) D.vd E.vd (few:=1) (many:=17) (by omega) (by omega) (r:=fun _=>(⟨#[]⟩,0)) (g:=fun _=>(⟨#[]⟩,0)) (fun n _ _=>⟨z0,z0⟩) (fun n a b W=>kC (MR0 n b _) (on n) (fun W=>dD z0 (by omega) (Nat.zero_le _) W) W) (fun n a b W=>lN (MR0 n b _) (on n) (fun W=>dD z0 (by omega) (Nat.zero_le _) W) W) W
 have hit:hdB (decide (b % 2=0)) ⟨#[]⟩ 0 t q (⟨#[]⟩,0)=true:=by
  unfold hdB
  have hp:0<hiF f L (mg S b):=by
   have:=lG h.sf.fs.1 h.m
   omega
  rw [fJ aW aW,fJ aW E,decide_eq_true ev]
  unfold inB aG
  rw [if_pos rfl]
  simp [hp]
 rw [show 17+1 - 1=16+1 from rfl] at r
 unfold aX at r
 rw [List.find?_cons,hit] at r
 exact r
def nxD (s:ByteArray) (p:Int) (k:Nat):Dp:=if k=0 then (if p=1099511627776 then (⟨#[]⟩,0) else (⟨#[49]⟩,p+1)) else (upS s k,p)
theorem gY {w:World}{va:Value}{X:Nat}(ha:Big.D.NatV w va X) (hX:Fits 1000 X) (s:Nat) (hs:s<=32000) :
 Calls Tryz.prog 70 #[va,vI (s:Int)] w fun e w'=>∃ v,e=.returned v/\Big.D.NatV w' v (X * 2 ^ s)/\Bl w w' :=
 (nL ha hX s hs).mono fun _ _ ⟨v,a,b,c⟩=>⟨v,a,b.nat,c⟩
theorem gX {w:World}{va vb:Value}{X Y:Nat}(ha:Big.D.NatV w va X) (hb:Big.D.NatV w vb Y) (hX:Fits 1000 X) (hY:Fits 1000 Y) :
 Calls Tryz.prog 81 #[va,vb] w fun e w'=>∃ v,e=.returned v/\Big.D.NatV w' v (X+Y)/\Bl w w' :=
 (zI ha hb hX hY).mono fun _ _ ⟨v,a,b,c⟩=>⟨v,a,b.nat,c⟩
theorem aAw {b z:Int}{m:Nat}{E:Int}{t:ByteArray}{q:Int}(hm:m<18446744073709551616) (he1:-1074<=E) (he2:E<=971) (HC:∀ W,Cb 36 #[vU b,vI z] W (vI 0)) (HP:∀ W,Cb 37 #[vU b,vI z] W (.tuple #[vU (m:Int),vI E])) (HD:∀ W v,Big.D.NatV W v (2 * m+1) -> Cb 38 #[v,vI (E - 1)] W (.agg #[.string t,vI q,.bool false])) (HM:∀ W,Cb 21 #[vU b,vI z] W (vU 0)) (w:World) :
 Cb 47 #[vU b,vI z] w (.tuple #[.agg #[.string ⟨#[]⟩,vI 0,.bool false],.agg #[.string t,vI q,.bool false],.bool true,vI 0]):=by
 have F0:Hid (Bk ((w.alloc (.cells #[.string ⟨#[]⟩,vI 0,.bool false] 24)).alloc (.cells #[.string ⟨#[]⟩,vI 0,.bool false] 24)) (w.heap.size) [.string ⟨#[]⟩,vI 0,.bool false]/\Bk ((w.alloc (.cells #[.string ⟨#[]⟩,vI 0,.bool false] 24)).alloc (.cells #[.string ⟨#[]⟩,vI 0,.bool false] 24)) (w.heap.size+1) [.string ⟨#[]⟩,vI 0,.bool false]/\Bl w ((w.alloc (.cells #[.string ⟨#[]⟩,vI 0,.bool false] 24)).alloc (.cells #[.string ⟨#[]⟩,vI 0,.bool false] 24))):=⟨(Bk.new3 w (.string ⟨#[]⟩) (vI 0) (.bool false) 24).step (bz _ _),((by have q:=Bk.new3 (w.alloc (.cells #[.string ⟨#[]⟩,vI 0,.bool false] 24)) (.string ⟨#[]⟩) (vI 0) (.bool false) 24;simpa using q):Bk ((w.alloc (.cells #[.string ⟨#[]⟩,vI 0,.bool false] 24)).alloc (.cells #[.string ⟨#[]⟩,vI 0,.bool false] 24)) (w.heap.size+1) [.string ⟨#[]⟩,vI 0,.bool false]),(((Below.refl w.heap.size w)).alloc (Nat.le_refl _) _).alloc ((((Below.refl w.heap.size w)).alloc (Nat.le_refl _) _).size) _⟩
 go_enter Tryz.func47,Tryz.ntmps47
 go_upto_region 1 with fail
 generalize ((w.alloc (.cells #[.string ⟨#[]⟩,vI 0,.bool false] 24)).alloc (.cells #[.string ⟨#[]⟩,vI 0,.bool false] 24))=w1 at *
 have SM:=fun W=>dR m hm W
 have fm:Fits 2 m:=Fits.word (n:=1) (by unfold B;omega)
 have HFM:Hid (Fits 2 m):=fm
 clear fm
 go_wp2_with fail
 all_goals first | (exfalso;omega) | skip
 refine (HC _).mono ?_
 rintro o2 w2 ⟨rfl,bb⟩
 have F1:Hid (Bk w2 (w.heap.size) [.string ⟨#[]⟩,vI 0,.bool false]/\Bk w2 (w.heap.size+1) [.string ⟨#[]⟩,vI 0,.bool false]/\Bl w w2):=⟨(F0.out.1).step bb,(F0.out.2.1).step bb,(F0.out.2.2).trans (bb.mono (F0.out.2.2).size)⟩
 clear F0
 clear bb
 go_wp2_with fail
 all_goals first | (exfalso;omega) | skip
 refine (HP _).mono ?_
 rintro o3 w3 ⟨rfl,bb⟩
 have F2:Hid (Bk w3 (w.heap.size) [.string ⟨#[]⟩,vI 0,.bool false]/\Bk w3 (w.heap.size+1) [.string ⟨#[]⟩,vI 0,.bool false]/\Bl w w3):=⟨(F1.out.1).step bb,(F1.out.2.1).step bb,(F1.out.2.2).trans (bb.mono (F1.out.2.2).size)⟩
 clear F1
 clear bb
 go_wp2_with fail
 all_goals first | (exfalso;omega) | skip
 refine (SM _).mono ?_
 rintro o4 w4 ⟨v1,rfl,nn,bb⟩
 have F3:Hid (Bk w4 (w.heap.size) [.string ⟨#[]⟩,vI 0,.bool false]/\Bk w4 (w.heap.size+1) [.string ⟨#[]⟩,vI 0,.bool false]/\Big.D.NatV w4 v1 (m)/\Bl w w4):=⟨(F2.out.1).step bb,(F2.out.2.1).step bb,nn,(F2.out.2.2).trans (bb.mono (F2.out.2.2).size)⟩
 clear F2
 clear bb nn
 have SH:=gY (F3.out.2.2.1) (HFM.out.up (by omega)) 1 (by omega)
 simp only [Int.cast_ofNat_Int] at SH
 go_wp2_with fail
 all_goals first | (exfalso;omega) | skip
 refine (SH).mono ?_
 rintro o5 w5 ⟨v2,rfl,nn,bb⟩
 have F4:Hid (Bk w5 (w.heap.size) [.string ⟨#[]⟩,vI 0,.bool false]/\Bk w5 (w.heap.size+1) [.string ⟨#[]⟩,vI 0,.bool false]/\Big.D.NatV w5 v1 (m)/\Big.D.NatV w5 v2 (m * 2 ^ 1)/\Bl w w5):=⟨(F3.out.1).step bb,(F3.out.2.1).step bb,(F3.out.2.2.1).below bb,nn,(F3.out.2.2.2).trans (bb.mono (F3.out.2.2.2).size)⟩
 clear F3
 clear bb nn
 clear SH
 go_wp2_with fail
 have F5:Hid (Bk (w5.alloc (.cells #[vU 1] 22)) (w.heap.size) [.string ⟨#[]⟩,vI 0,.bool false]/\Bk (w5.alloc (.cells #[vU 1] 22)) (w.heap.size+1) [.string ⟨#[]⟩,vI 0,.bool false]/\Big.D.NatV (w5.alloc (.cells #[vU 1] 22)) v1 (m)/\Big.D.NatV (w5.alloc (.cells #[vU 1] 22)) v2 (m * 2 ^ 1)/\Big.D.NatV (w5.alloc (.cells #[vU 1] 22)) (.slice (some ⟨w5.heap.size,0,none⟩) 1 1) (1)/\Bl w (w5.alloc (.cells #[vU 1] 22))):=⟨(F4.out.1).step (bz _ _),(F4.out.2.1).step (bz _ _),(F4.out.2.2.1).below (bz _ _),(F4.out.2.2.2.1).below (bz _ _),jL w5,(F4.out.2.2.2.2).alloc ((F4.out.2.2.2.2).size) _⟩
 clear F4
 go_wp2_with fail
 generalize (w5.alloc (.cells #[vU 1] 22))=w6 at *
 have SA:=gX (F5.out.2.2.2.1) (F5.out.2.2.2.2.1) ((HFM.out.mul (aZ (s:=1) (k:=1) (by omega))).up (by omega)) ((aZ (s:=0) (k:=1) (by omega)).up (by omega))
 rw [show m * 2 ^ 1+1=2 * m+1 by omega] at SA
 go_wp2_with fail
 all_goals first | (exfalso;omega) | skip
 refine (SA).mono ?_
 rintro o7 w7 ⟨v3,rfl,nn,bb⟩
 have F6:Hid (Bk w7 (w.heap.size) [.string ⟨#[]⟩,vI 0,.bool false]/\Bk w7 (w.heap.size+1) [.string ⟨#[]⟩,vI 0,.bool false]/\Big.D.NatV w7 v1 (m)/\Big.D.NatV w7 v2 (m * 2 ^ 1)/\Big.D.NatV w7 (.slice (some ⟨w5.heap.size,0,none⟩) 1 1) (1)/\Big.D.NatV w7 v3 (2 * m+1)/\Bl w w7):=⟨(F5.out.1).step bb,(F5.out.2.1).step bb,(F5.out.2.2.1).below bb,(F5.out.2.2.2.1).below bb,(F5.out.2.2.2.2.1).below bb,nn,(F5.out.2.2.2.2.2).trans (bb.mono (F5.out.2.2.2.2.2).size)⟩
 clear F5
 clear bb nn
 clear SA
 go_wp2_with fail
 all_goals first | (exfalso;omega) | skip
 refine (HD _ _ (F6.out.2.2.2.2.2.1)).mono ?_
 rintro o8 w8 ⟨rfl,bb⟩
 have F7:Hid (Bk w8 (w.heap.size) [.string ⟨#[]⟩,vI 0,.bool false]/\Bk w8 (w.heap.size+1) [.string ⟨#[]⟩,vI 0,.bool false]/\Big.D.NatV w8 v1 (m)/\Big.D.NatV w8 v2 (m * 2 ^ 1)/\Big.D.NatV w8 (.slice (some ⟨w5.heap.size,0,none⟩) 1 1) (1)/\Big.D.NatV w8 v3 (2 * m+1)/\Bl w w8):=⟨(F6.out.1).step bb,(F6.out.2.1).step bb,(F6.out.2.2.1).below bb,(F6.out.2.2.2.1).below bb,(F6.out.2.2.2.2.1).below bb,(F6.out.2.2.2.2.2.1).below bb,(F6.out.2.2.2.2.2.2).trans (bb.mono (F6.out.2.2.2.2.2.2).size)⟩
 clear F6
 clear bb
 have F8:Hid (Bk w8 (w.heap.size) [.string ⟨#[]⟩,vI 0,.bool false]/\Bk w8 (w.heap.size+1) [.string ⟨#[]⟩,vI 0,.bool false]/\Bl w w8):=⟨F7.out.1,F7.out.2.1,F7.out.2.2.2.2.2.2⟩
 clear F7
 have lt0_2:=(F8.out.1).lt
 have lt1_2:=(F8.out.2.1).lt
 have le2:=(F8.out.2.2).size
 have F9:Hid (Bk ((w8.alloc (.cells #[.string t,vI q,.bool false] 24)).alloc (.cells #[.string ⟨#[]⟩,vI 0,.bool false] 24)) (w.heap.size) [.string ⟨#[]⟩,vI 0,.bool false]/\Bk ((w8.alloc (.cells #[.string t,vI q,.bool false] 24)).alloc (.cells #[.string ⟨#[]⟩,vI 0,.bool false] 24)) (w.heap.size+1) [.string ⟨#[]⟩,vI 0,.bool false]/\Bk ((w8.alloc (.cells #[.string t,vI q,.bool false] 24)).alloc (.cells #[.string ⟨#[]⟩,vI 0,.bool false] 24)) (w8.heap.size) [.string t,vI q,.bool false]/\Bk ((w8.alloc (.cells #[.string t,vI q,.bool false] 24)).alloc (.cells #[.string ⟨#[]⟩,vI 0,.bool false] 24)) (w8.heap.size+1) [.string ⟨#[]⟩,vI 0,.bool false]/\Bl w ((w8.alloc (.cells #[.string t,vI q,.bool false] 24)).alloc (.cells #[.string ⟨#[]⟩,vI 0,.bool false] 24))):=⟨((F8.out.1).step (bz _ _)).step (bz _ _),((F8.out.2.1).step (bz _ _)).step (bz _ _),(Bk.new3 w8 (.string t) (vI q) (.bool false) 24).step (bz _ _),((by have q:=Bk.new3 (w8.alloc (.cells #[.string t,vI q,.bool false] 24)) (.string ⟨#[]⟩) (vI 0) (.bool false) 24;simpa using q):Bk ((w8.alloc (.cells #[.string t,vI q,.bool false] 24)).alloc (.cells #[.string ⟨#[]⟩,vI 0,.bool false] 24)) (w8.heap.size+1) [.string ⟨#[]⟩,vI 0,.bool false]),((F8.out.2.2).alloc ((F8.out.2.2).size) _).alloc (((F8.out.2.2).alloc ((F8.out.2.2).size) _).size) _⟩
 clear F8
 go_upto_region 7 with fail
 generalize ((w8.alloc (.cells #[.string t,vI q,.bool false] 24)).alloc (.cells #[.string ⟨#[]⟩,vI 0,.bool false] 24))=w9 at *
 have l1_0:=F9.out.1.lt
 have a1_0_0:=F9.out.1.cell 0 _ rfl
 have f1_0_0:=F9.out.1.fz 0
 have a1_0_1:=F9.out.1.cell 1 _ rfl
 have f1_0_1:=F9.out.1.fz 1
 have a1_0_2:=F9.out.1.cell 2 _ rfl
 have f1_0_2:=F9.out.1.fz 2
 have l1_1:=F9.out.2.1.lt
 have a1_1_0:=F9.out.2.1.cell 0 _ rfl
 have f1_1_0:=F9.out.2.1.fz 0
 have a1_1_1:=F9.out.2.1.cell 1 _ rfl
 have f1_1_1:=F9.out.2.1.fz 1
 have a1_1_2:=F9.out.2.1.cell 2 _ rfl
 have f1_1_2:=F9.out.2.1.fz 2
 have l1_2:=F9.out.2.2.1.lt
 have a1_2_0:=F9.out.2.2.1.cell 0 _ rfl
 have f1_2_0:=F9.out.2.2.1.fz 0
 have a1_2_1:=F9.out.2.2.1.cell 1 _ rfl
 have f1_2_1:=F9.out.2.2.1.fz 1
 have a1_2_2:=F9.out.2.2.1.cell 2 _ rfl
 have f1_2_2:=F9.out.2.2.1.fz 2
 have l1_3:=F9.out.2.2.2.1.lt
 have a1_3_0:=F9.out.2.2.2.1.cell 0 _ rfl
 have f1_3_0:=F9.out.2.2.2.1.fz 0
 have a1_3_1:=F9.out.2.2.2.1.cell 1 _ rfl
 have f1_3_1:=F9.out.2.2.2.1.fz 1
 have a1_3_2:=F9.out.2.2.2.1.cell 2 _ rfl
 have f1_3_2:=F9.out.2.2.2.1.fz 2
 have ne1_0_1:¬ w.heap.size=w.heap.size+1:=by omega
 have ne1_0_2:¬ w.heap.size=w8.heap.size:=by omega
 have ne1_0_3:¬ w.heap.size=w8.heap.size+1:=by omega
 have ne1_1_0:¬ w.heap.size+1=w.heap.size:=by omega
 have ne1_1_2:¬ w.heap.size+1=w8.heap.size:=by omega
 have ne1_1_3:¬ w.heap.size+1=w8.heap.size+1:=by omega
 have ne1_2_0:¬ w8.heap.size=w.heap.size:=by omega
 have ne1_2_1:¬ w8.heap.size=w.heap.size+1:=by omega
 have ne1_2_3:¬ w8.heap.size=w8.heap.size+1:=by omega
 have ne1_3_0:¬ w8.heap.size+1=w.heap.size:=by omega
 have ne1_3_1:¬ w8.heap.size+1=w.heap.size+1:=by omega
 have ne1_3_2:¬ w8.heap.size+1=w8.heap.size:=by omega
 go_wp2_with fail
 all_goals first | (exfalso;omega) | skip
 refine (HM _).mono ?_
 rintro o10 w10 ⟨rfl,bb⟩
 have F10:Hid (Bk w10 (w.heap.size) [.string ⟨#[]⟩,vI 0,.bool false]/\Bk w10 (w.heap.size+1) [.string ⟨#[]⟩,vI 0,.bool false]/\Bk w10 (w8.heap.size) [.string t,vI q,.bool false]/\Bk w10 (w8.heap.size+1) [.string ⟨#[]⟩,vI 0,.bool false]/\Bl w w10):=⟨(F9.out.1).step bb,(F9.out.2.1).step bb,(F9.out.2.2.1).step bb,(F9.out.2.2.2.1).step bb,(F9.out.2.2.2.2).trans (bb.mono (F9.out.2.2.2.2).size)⟩
 clear F9
 clear bb
 clear l1_0 a1_0_0 f1_0_0 a1_0_1 f1_0_1 a1_0_2 f1_0_2 l1_1 a1_1_0 f1_1_0 a1_1_1 f1_1_1 a1_1_2 f1_1_2 l1_2 a1_2_0 f1_2_0 a1_2_1 f1_2_1 a1_2_2 f1_2_2 l1_3 a1_3_0 f1_3_0 a1_3_1 f1_3_1 a1_3_2 f1_3_2
 have l2_0:=F10.out.1.lt
 have a2_0_0:=F10.out.1.cell 0 _ rfl
 have f2_0_0:=F10.out.1.fz 0
 have a2_0_1:=F10.out.1.cell 1 _ rfl
 have f2_0_1:=F10.out.1.fz 1
 have a2_0_2:=F10.out.1.cell 2 _ rfl
 have f2_0_2:=F10.out.1.fz 2
 have l2_1:=F10.out.2.1.lt
 have a2_1_0:=F10.out.2.1.cell 0 _ rfl
 have f2_1_0:=F10.out.2.1.fz 0
 have a2_1_1:=F10.out.2.1.cell 1 _ rfl
 have f2_1_1:=F10.out.2.1.fz 1
 have a2_1_2:=F10.out.2.1.cell 2 _ rfl
 have f2_1_2:=F10.out.2.1.fz 2
 have l2_2:=F10.out.2.2.1.lt
 have a2_2_0:=F10.out.2.2.1.cell 0 _ rfl
 have f2_2_0:=F10.out.2.2.1.fz 0
 have a2_2_1:=F10.out.2.2.1.cell 1 _ rfl
 have f2_2_1:=F10.out.2.2.1.fz 1
 have a2_2_2:=F10.out.2.2.1.cell 2 _ rfl
 have f2_2_2:=F10.out.2.2.1.fz 2
 have l2_3:=F10.out.2.2.2.1.lt
 have a2_3_0:=F10.out.2.2.2.1.cell 0 _ rfl
 have f2_3_0:=F10.out.2.2.2.1.fz 0
 have a2_3_1:=F10.out.2.2.2.1.cell 1 _ rfl
 have f2_3_1:=F10.out.2.2.2.1.fz 1
 have a2_3_2:=F10.out.2.2.2.1.cell 2 _ rfl
 have f2_3_2:=F10.out.2.2.2.1.fz 2
 have ne2_0_1:¬ w.heap.size=w.heap.size+1:=by omega
 have ne2_0_2:¬ w.heap.size=w8.heap.size:=by omega
 have ne2_0_3:¬ w.heap.size=w8.heap.size+1:=by omega
 have ne2_1_0:¬ w.heap.size+1=w.heap.size:=by omega
 have ne2_1_2:¬ w.heap.size+1=w8.heap.size:=by omega
 have ne2_1_3:¬ w.heap.size+1=w8.heap.size+1:=by omega
 have ne2_2_0:¬ w8.heap.size=w.heap.size:=by omega
 have ne2_2_1:¬ w8.heap.size=w.heap.size+1:=by omega
 have ne2_2_3:¬ w8.heap.size=w8.heap.size+1:=by omega
 have ne2_3_0:¬ w8.heap.size+1=w.heap.size:=by omega
 have ne2_3_1:¬ w8.heap.size+1=w.heap.size+1:=by omega
 have ne2_3_2:¬ w8.heap.size+1=w8.heap.size:=by omega
 go_upto_region 11 with fail
 go_region_held3 (fun w'=>w'.cell? ⟨w8.heap.size,0,none⟩=some (.string t)/\w'.cell? ⟨w8.heap.size,1,none⟩=some (vI q)/\w'.cell? ⟨w8.heap.size,2,none⟩=some (.bool false)/\w'.cell? ⟨w8.heap.size+1,0,none⟩=some (.string ⟨#[]⟩)/\w'.cell? ⟨w8.heap.size+1,1,none⟩=some (vI 0)/\w'.cell? ⟨w8.heap.size+1,2,none⟩=some (.bool false)) (simp [*,go_sem]) (fail)
 go_wp2
 refine bodyPost_ret (v:=.tuple #[.agg #[.string ⟨#[]⟩,vI 0,.bool false],.agg #[.string t,vI q,.bool false],.bool true,vI 0]) (by simp [results,Tryz.results47,go_sem,World.cell?_setCell_same,World.cell?_setCell_other, *]) rfl ⟨rfl,?_⟩
 refine Below.drew ?_
 repeat (first | refine Below.setCell ?_ (by first | exact Nat.le_refl _ | (dsimp only;omega)) _ | refine Below.alloc ?_ (by first | exact Nat.le_refl _ | omega | (simp;omega)) _ | refine Below.drew ?_)
 exact F10.out.2.2.2.2
theorem aDi {b z:Int}{m m2 M D:Nat}{E E2:Int}{s t:ByteArray}{p q:Int}(hm:m<18446744073709551616) (hm2:m2<18446744073709551616) (he1:-1074<=E) (he2:E<=971) (hf1:-1074<=E2) (hf2:E2<=971) (M0:0<M) (M1:M<18446744073709551616) (hD:D<=1) (eD:E - E2=(D:Int)) (HC:∀ W,Cb 36 #[vU b,vI z] W (vI 0)) (HP:∀ W,Cb 37 #[vU b,vI z] W (.tuple #[vU (m:Int),vI E])) (HD:∀ W v,Big.D.NatV W v (2 * m+1) -> Cb 38 #[v,vI (E - 1)] W (.agg #[.string t,vI q,.bool false])) (HM:∀ W,Cb 21 #[vU b,vI z] W (vU (M:Int))) (HP2:∀ W,Cb 37 #[vU ((M:Int) - 1),vI z] W (.tuple #[vU (m2:Int),vI E2])) (HD2:∀ W v,Big.D.NatV W v (m * 2 ^ D+m2) -> Cb 38 #[v,vI (E2 - 1)] W (.agg #[.string s,vI p,.bool false])) (w:World) :
 Cb 47 #[vU b,vI z] w (.tuple #[.agg #[.string s,vI p,.bool false],.agg #[.string t,vI q,.bool false],.bool (decide (M % 2=0)),vI 0]):=by
 have eb:((M:Int).tmod 2 == 0)=decide (M % 2=0):=by
  rw [Int.tmod_eq_emod_of_nonneg (by omega)]
  by_cases h:M % 2=0
  . rw [decide_eq_true h];exact beq_iff_eq.mpr (by omega)
  . rw [decide_eq_false h];exact beq_eq_false_iff_ne.mpr (by omega)
 generalize decide (M % 2=0)=cB at *
 have F0:Hid (Bk ((w.alloc (.cells #[.string ⟨#[]⟩,vI 0,.bool false] 24)).alloc (.cells #[.string ⟨#[]⟩,vI 0,.bool false] 24)) (w.heap.size) [.string ⟨#[]⟩,vI 0,.bool false]/\Bk ((w.alloc (.cells #[.string ⟨#[]⟩,vI 0,.bool false] 24)).alloc (.cells #[.string ⟨#[]⟩,vI 0,.bool false] 24)) (w.heap.size+1) [.string ⟨#[]⟩,vI 0,.bool false]/\Bl w ((w.alloc (.cells #[.string ⟨#[]⟩,vI 0,.bool false] 24)).alloc (.cells #[.string ⟨#[]⟩,vI 0,.bool false] 24))):=⟨(Bk.new3 w (.string ⟨#[]⟩) (vI 0) (.bool false) 24).step (bz _ _),((by have q:=Bk.new3 (w.alloc (.cells #[.string ⟨#[]⟩,vI 0,.bool false] 24)) (.string ⟨#[]⟩) (vI 0) (.bool false) 24;simpa using q):Bk ((w.alloc (.cells #[.string ⟨#[]⟩,vI 0,.bool false] 24)).alloc (.cells #[.string ⟨#[]⟩,vI 0,.bool false] 24)) (w.heap.size+1) [.string ⟨#[]⟩,vI 0,.bool false]),(((Below.refl w.heap.size w)).alloc (Nat.le_refl _) _).alloc ((((Below.refl w.heap.size w)).alloc (Nat.le_refl _) _).size) _⟩
 go_enter Tryz.func47,Tryz.ntmps47
 go_upto_region 1 with fail
 generalize ((w.alloc (.cells #[.string ⟨#[]⟩,vI 0,.bool false] 24)).alloc (.cells #[.string ⟨#[]⟩,vI 0,.bool false] 24))=w1 at *
 have SM:=fun W=>dR m hm W
 have fm:Fits 2 m:=Fits.word (n:=1) (by unfold B;omega)
 have HFM:Hid (Fits 2 m):=fm
 clear fm
 go_wp2_with fail
 all_goals first | (exfalso;omega) | skip
 refine (HC _).mono ?_
 rintro o2 w2 ⟨rfl,bb⟩
 have F1:Hid (Bk w2 (w.heap.size) [.string ⟨#[]⟩,vI 0,.bool false]/\Bk w2 (w.heap.size+1) [.string ⟨#[]⟩,vI 0,.bool false]/\Bl w w2):=⟨(F0.out.1).step bb,(F0.out.2.1).step bb,(F0.out.2.2).trans (bb.mono (F0.out.2.2).size)⟩
 clear F0
 clear bb
 go_wp2_with fail
 all_goals first | (exfalso;omega) | skip
 refine (HP _).mono ?_
 rintro o3 w3 ⟨rfl,bb⟩
 have F2:Hid (Bk w3 (w.heap.size) [.string ⟨#[]⟩,vI 0,.bool false]/\Bk w3 (w.heap.size+1) [.string ⟨#[]⟩,vI 0,.bool false]/\Bl w w3):=⟨(F1.out.1).step bb,(F1.out.2.1).step bb,(F1.out.2.2).trans (bb.mono (F1.out.2.2).size)⟩
 clear F1
 clear bb
 go_wp2_with fail
 all_goals first | (exfalso;omega) | skip
 refine (SM _).mono ?_
 rintro o4 w4 ⟨v1,rfl,nn,bb⟩
 have F3:Hid (Bk w4 (w.heap.size) [.string ⟨#[]⟩,vI 0,.bool false]/\Bk w4 (w.heap.size+1) [.string ⟨#[]⟩,vI 0,.bool false]/\Big.D.NatV w4 v1 (m)/\Bl w w4):=⟨(F2.out.1).step bb,(F2.out.2.1).step bb,nn,(F2.out.2.2).trans (bb.mono (F2.out.2.2).size)⟩
 clear F2
 clear bb nn
 have SH:=gY (F3.out.2.2.1) (HFM.out.up (by omega)) 1 (by omega)
 simp only [Int.cast_ofNat_Int] at SH
 go_wp2_with fail
 all_goals first | (exfalso;omega) | skip
 refine (SH).mono ?_
 rintro o5 w5 ⟨v2,rfl,nn,bb⟩
 have F4:Hid (Bk w5 (w.heap.size) [.string ⟨#[]⟩,vI 0,.bool false]/\Bk w5 (w.heap.size+1) [.string ⟨#[]⟩,vI 0,.bool false]/\Big.D.NatV w5 v1 (m)/\Big.D.NatV w5 v2 (m * 2 ^ 1)/\Bl w w5):=⟨(F3.out.1).step bb,(F3.out.2.1).step bb,(F3.out.2.2.1).below bb,nn,(F3.out.2.2.2).trans (bb.mono (F3.out.2.2.2).size)⟩
 clear F3
 clear bb nn
 clear SH
 go_wp2_with fail
 have F5:Hid (Bk (w5.alloc (.cells #[vU 1] 22)) (w.heap.size) [.string ⟨#[]⟩,vI 0,.bool false]/\Bk (w5.alloc (.cells #[vU 1] 22)) (w.heap.size+1) [.string ⟨#[]⟩,vI 0,.bool false]/\Big.D.NatV (w5.alloc (.cells #[vU 1] 22)) v1 (m)/\Big.D.NatV (w5.alloc (.cells #[vU 1] 22)) v2 (m * 2 ^ 1)/\Big.D.NatV (w5.alloc (.cells #[vU 1] 22)) (.slice (some ⟨w5.heap.size,0,none⟩) 1 1) (1)/\Bl w (w5.alloc (.cells #[vU 1] 22))):=⟨(F4.out.1).step (bz _ _),(F4.out.2.1).step (bz _ _),(F4.out.2.2.1).below (bz _ _),(F4.out.2.2.2.1).below (bz _ _),jL w5,(F4.out.2.2.2.2).alloc ((F4.out.2.2.2.2).size) _⟩
 clear F4
 go_wp2_with fail
 generalize (w5.alloc (.cells #[vU 1] 22))=w6 at *
 have SA:=gX (F5.out.2.2.2.1) (F5.out.2.2.2.2.1) ((HFM.out.mul (aZ (s:=1) (k:=1) (by omega))).up (by omega)) ((aZ (s:=0) (k:=1) (by omega)).up (by omega))
 rw [show m * 2 ^ 1+1=2 * m+1 by omega] at SA
 go_wp2_with fail
 all_goals first | (exfalso;omega) | skip
 refine (SA).mono ?_
 rintro o7 w7 ⟨v3,rfl,nn,bb⟩
 have F6:Hid (Bk w7 (w.heap.size) [.string ⟨#[]⟩,vI 0,.bool false]/\Bk w7 (w.heap.size+1) [.string ⟨#[]⟩,vI 0,.bool false]/\Big.D.NatV w7 v1 (m)/\Big.D.NatV w7 v2 (m * 2 ^ 1)/\Big.D.NatV w7 (.slice (some ⟨w5.heap.size,0,none⟩) 1 1) (1)/\Big.D.NatV w7 v3 (2 * m+1)/\Bl w w7):=⟨(F5.out.1).step bb,(F5.out.2.1).step bb,(F5.out.2.2.1).below bb,(F5.out.2.2.2.1).below bb,(F5.out.2.2.2.2.1).below bb,nn,(F5.out.2.2.2.2.2).trans (bb.mono (F5.out.2.2.2.2.2).size)⟩
 clear F5
 clear bb nn
 clear SA
 go_wp2_with fail
 all_goals first | (exfalso;omega) | skip
 refine (HD _ _ (F6.out.2.2.2.2.2.1)).mono ?_
 rintro o8 w8 ⟨rfl,bb⟩
 have F7:Hid (Bk w8 (w.heap.size) [.string ⟨#[]⟩,vI 0,.bool false]/\Bk w8 (w.heap.size+1) [.string ⟨#[]⟩,vI 0,.bool false]/\Big.D.NatV w8 v1 (m)/\Big.D.NatV w8 v2 (m * 2 ^ 1)/\Big.D.NatV w8 (.slice (some ⟨w5.heap.size,0,none⟩) 1 1) (1)/\Big.D.NatV w8 v3 (2 * m+1)/\Bl w w8):=⟨(F6.out.1).step bb,(F6.out.2.1).step bb,(F6.out.2.2.1).below bb,(F6.out.2.2.2.1).below bb,(F6.out.2.2.2.2.1).below bb,(F6.out.2.2.2.2.2.1).below bb,(F6.out.2.2.2.2.2.2).trans (bb.mono (F6.out.2.2.2.2.2.2).size)⟩
 clear F6
 clear bb
 have F8:Hid (Bk w8 (w.heap.size) [.string ⟨#[]⟩,vI 0,.bool false]/\Bk w8 (w.heap.size+1) [.string ⟨#[]⟩,vI 0,.bool false]/\Bl w w8):=⟨F7.out.1,F7.out.2.1,F7.out.2.2.2.2.2.2⟩
 clear F7
 have lt0_2:=(F8.out.1).lt
 have lt1_2:=(F8.out.2.1).lt
 have le2:=(F8.out.2.2).size
 have F9:Hid (Bk ((w8.alloc (.cells #[.string t,vI q,.bool false] 24)).alloc (.cells #[.string ⟨#[]⟩,vI 0,.bool false] 24)) (w.heap.size) [.string ⟨#[]⟩,vI 0,.bool false]/\Bk ((w8.alloc (.cells #[.string t,vI q,.bool false] 24)).alloc (.cells #[.string ⟨#[]⟩,vI 0,.bool false] 24)) (w.heap.size+1) [.string ⟨#[]⟩,vI 0,.bool false]/\Bk ((w8.alloc (.cells #[.string t,vI q,.bool false] 24)).alloc (.cells #[.string ⟨#[]⟩,vI 0,.bool false] 24)) (w8.heap.size) [.string t,vI q,.bool false]/\Bk ((w8.alloc (.cells #[.string t,vI q,.bool false] 24)).alloc (.cells #[.string ⟨#[]⟩,vI 0,.bool false] 24)) (w8.heap.size+1) [.string ⟨#[]⟩,vI 0,.bool false]/\Bl w ((w8.alloc (.cells #[.string t,vI q,.bool false] 24)).alloc (.cells #[.string ⟨#[]⟩,vI 0,.bool false] 24))):=⟨((F8.out.1).step (bz _ _)).step (bz _ _),((F8.out.2.1).step (bz _ _)).step (bz _ _),(Bk.new3 w8 (.string t) (vI q) (.bool false) 24).step (bz _ _),((by have q:=Bk.new3 (w8.alloc (.cells #[.string t,vI q,.bool false] 24)) (.string ⟨#[]⟩) (vI 0) (.bool false) 24;simpa using q):Bk ((w8.alloc (.cells #[.string t,vI q,.bool false] 24)).alloc (.cells #[.string ⟨#[]⟩,vI 0,.bool false] 24)) (w8.heap.size+1) [.string ⟨#[]⟩,vI 0,.bool false]),((F8.out.2.2).alloc ((F8.out.2.2).size) _).alloc (((F8.out.2.2).alloc ((F8.out.2.2).size) _).size) _⟩
 clear F8
 go_upto_region 7 with fail
 generalize ((w8.alloc (.cells #[.string t,vI q,.bool false] 24)).alloc (.cells #[.string ⟨#[]⟩,vI 0,.bool false] 24))=w9 at *
 have l1_0:=F9.out.1.lt
 have a1_0_0:=F9.out.1.cell 0 _ rfl
 have f1_0_0:=F9.out.1.fz 0
 have a1_0_1:=F9.out.1.cell 1 _ rfl
 have f1_0_1:=F9.out.1.fz 1
 have a1_0_2:=F9.out.1.cell 2 _ rfl
 have f1_0_2:=F9.out.1.fz 2
 have l1_1:=F9.out.2.1.lt
 have a1_1_0:=F9.out.2.1.cell 0 _ rfl
 have f1_1_0:=F9.out.2.1.fz 0
 have a1_1_1:=F9.out.2.1.cell 1 _ rfl
 have f1_1_1:=F9.out.2.1.fz 1
 have a1_1_2:=F9.out.2.1.cell 2 _ rfl
 have f1_1_2:=F9.out.2.1.fz 2
 have l1_2:=F9.out.2.2.1.lt
 have a1_2_0:=F9.out.2.2.1.cell 0 _ rfl
 have f1_2_0:=F9.out.2.2.1.fz 0
 have a1_2_1:=F9.out.2.2.1.cell 1 _ rfl
 have f1_2_1:=F9.out.2.2.1.fz 1
 have a1_2_2:=F9.out.2.2.1.cell 2 _ rfl
 have f1_2_2:=F9.out.2.2.1.fz 2
 have l1_3:=F9.out.2.2.2.1.lt
 have a1_3_0:=F9.out.2.2.2.1.cell 0 _ rfl
 have f1_3_0:=F9.out.2.2.2.1.fz 0
 have a1_3_1:=F9.out.2.2.2.1.cell 1 _ rfl
 have f1_3_1:=F9.out.2.2.2.1.fz 1
 have a1_3_2:=F9.out.2.2.2.1.cell 2 _ rfl
 have f1_3_2:=F9.out.2.2.2.1.fz 2
 have ne1_0_1:¬ w.heap.size=w.heap.size+1:=by omega
 have ne1_0_2:¬ w.heap.size=w8.heap.size:=by omega
 have ne1_0_3:¬ w.heap.size=w8.heap.size+1:=by omega
 have ne1_1_0:¬ w.heap.size+1=w.heap.size:=by omega
 have ne1_1_2:¬ w.heap.size+1=w8.heap.size:=by omega
 have ne1_1_3:¬ w.heap.size+1=w8.heap.size+1:=by omega
 have ne1_2_0:¬ w8.heap.size=w.heap.size:=by omega
 have ne1_2_1:¬ w8.heap.size=w.heap.size+1:=by omega
 have ne1_2_3:¬ w8.heap.size=w8.heap.size+1:=by omega
 have ne1_3_0:¬ w8.heap.size+1=w.heap.size:=by omega
 have ne1_3_1:¬ w8.heap.size+1=w.heap.size+1:=by omega
 have ne1_3_2:¬ w8.heap.size+1=w8.heap.size:=by omega
 go_wp2_with fail
 all_goals first | (exfalso;omega) | skip
 refine (HM _).mono ?_
 rintro o10 w10 ⟨rfl,bb⟩
 have F10:Hid (Bk w10 (w.heap.size) [.string ⟨#[]⟩,vI 0,.bool false]/\Bk w10 (w.heap.size+1) [.string ⟨#[]⟩,vI 0,.bool false]/\Bk w10 (w8.heap.size) [.string t,vI q,.bool false]/\Bk w10 (w8.heap.size+1) [.string ⟨#[]⟩,vI 0,.bool false]/\Bl w w10):=⟨(F9.out.1).step bb,(F9.out.2.1).step bb,(F9.out.2.2.1).step bb,(F9.out.2.2.2.1).step bb,(F9.out.2.2.2.2).trans (bb.mono (F9.out.2.2.2.2).size)⟩
 clear F9
 clear bb
 clear l1_0 a1_0_0 f1_0_0 a1_0_1 f1_0_1 a1_0_2 f1_0_2 l1_1 a1_1_0 f1_1_0 a1_1_1 f1_1_1 a1_1_2 f1_1_2 l1_2 a1_2_0 f1_2_0 a1_2_1 f1_2_1 a1_2_2 f1_2_2 l1_3 a1_3_0 f1_3_0 a1_3_1 f1_3_1 a1_3_2 f1_3_2
 have l2_0:=F10.out.1.lt
 have a2_0_0:=F10.out.1.cell 0 _ rfl
 have f2_0_0:=F10.out.1.fz 0
 have a2_0_1:=F10.out.1.cell 1 _ rfl
 have f2_0_1:=F10.out.1.fz 1
 have a2_0_2:=F10.out.1.cell 2 _ rfl
 have f2_0_2:=F10.out.1.fz 2
 have l2_1:=F10.out.2.1.lt
 have a2_1_0:=F10.out.2.1.cell 0 _ rfl
 have f2_1_0:=F10.out.2.1.fz 0
 have a2_1_1:=F10.out.2.1.cell 1 _ rfl
 have f2_1_1:=F10.out.2.1.fz 1
 have a2_1_2:=F10.out.2.1.cell 2 _ rfl
 have f2_1_2:=F10.out.2.1.fz 2
 have l2_2:=F10.out.2.2.1.lt
 have a2_2_0:=F10.out.2.2.1.cell 0 _ rfl
 have f2_2_0:=F10.out.2.2.1.fz 0
 have a2_2_1:=F10.out.2.2.1.cell 1 _ rfl
 have f2_2_1:=F10.out.2.2.1.fz 1
 have a2_2_2:=F10.out.2.2.1.cell 2 _ rfl
 have f2_2_2:=F10.out.2.2.1.fz 2
 have l2_3:=F10.out.2.2.2.1.lt
 have a2_3_0:=F10.out.2.2.2.1.cell 0 _ rfl
 have f2_3_0:=F10.out.2.2.2.1.fz 0
 have a2_3_1:=F10.out.2.2.2.1.cell 1 _ rfl
 have f2_3_1:=F10.out.2.2.2.1.fz 1
 have a2_3_2:=F10.out.2.2.2.1.cell 2 _ rfl
 have f2_3_2:=F10.out.2.2.2.1.fz 2
 have ne2_0_1:¬ w.heap.size=w.heap.size+1:=by omega
 have ne2_0_2:¬ w.heap.size=w8.heap.size:=by omega
 have ne2_0_3:¬ w.heap.size=w8.heap.size+1:=by omega
 have ne2_1_0:¬ w.heap.size+1=w.heap.size:=by omega
 have ne2_1_2:¬ w.heap.size+1=w8.heap.size:=by omega
 have ne2_1_3:¬ w.heap.size+1=w8.heap.size+1:=by omega
 have ne2_2_0:¬ w8.heap.size=w.heap.size:=by omega
 have ne2_2_1:¬ w8.heap.size=w.heap.size+1:=by omega
 have ne2_2_3:¬ w8.heap.size=w8.heap.size+1:=by omega
 have ne2_3_0:¬ w8.heap.size+1=w.heap.size:=by omega
 have ne2_3_1:¬ w8.heap.size+1=w.heap.size+1:=by omega
 have ne2_3_2:¬ w8.heap.size+1=w8.heap.size:=by omega
 go_wp2_with fail
 all_goals first | (exfalso;omega) | skip
 refine (HP2 _).mono ?_
 rintro o11 w11 ⟨rfl,bb⟩
 have F11:Hid (Bk w11 (w.heap.size) [.string ⟨#[]⟩,vI 0,.bool false]/\Bk w11 (w.heap.size+1) [.string ⟨#[]⟩,vI 0,.bool false]/\Bk w11 (w8.heap.size) [.string t,vI q,.bool false]/\Bk w11 (w8.heap.size+1) [.string ⟨#[]⟩,vI 0,.bool false]/\Bl w w11):=⟨(F10.out.1).step bb,(F10.out.2.1).step bb,(F10.out.2.2.1).step bb,(F10.out.2.2.2.1).step bb,(F10.out.2.2.2.2).trans (bb.mono (F10.out.2.2.2.2).size)⟩
 clear F10
 clear bb
 go_wp2_with fail
 all_goals first | (exfalso;omega) | skip
 refine (SM _).mono ?_
 rintro o12 w12 ⟨v7,rfl,nn,bb⟩
 have F12:Hid (Bk w12 (w.heap.size) [.string ⟨#[]⟩,vI 0,.bool false]/\Bk w12 (w.heap.size+1) [.string ⟨#[]⟩,vI 0,.bool false]/\Bk w12 (w8.heap.size) [.string t,vI q,.bool false]/\Bk w12 (w8.heap.size+1) [.string ⟨#[]⟩,vI 0,.bool false]/\Big.D.NatV w12 v7 (m)/\Bl w w12):=⟨(F11.out.1).step bb,(F11.out.2.1).step bb,(F11.out.2.2.1).step bb,(F11.out.2.2.2.1).step bb,nn,(F11.out.2.2.2.2).trans (bb.mono (F11.out.2.2.2.2).size)⟩
 clear F11
 clear bb nn
 have SH:=gY (F12.out.2.2.2.2.1) (HFM.out.up (by omega)) D (by omega)
 go_wp2_with fail
 all_goals first | (exfalso;omega) | skip
 refine (SH).mono ?_
 rintro o13 w13 ⟨v8,rfl,nn,bb⟩
 have F13:Hid (Bk w13 (w.heap.size) [.string ⟨#[]⟩,vI 0,.bool false]/\Bk w13 (w.heap.size+1) [.string ⟨#[]⟩,vI 0,.bool false]/\Bk w13 (w8.heap.size) [.string t,vI q,.bool false]/\Bk w13 (w8.heap.size+1) [.string ⟨#[]⟩,vI 0,.bool false]/\Big.D.NatV w13 v7 (m)/\Big.D.NatV w13 v8 (m * 2 ^ D)/\Bl w w13):=⟨(F12.out.1).step bb,(F12.out.2.1).step bb,(F12.out.2.2.1).step bb,(F12.out.2.2.2.1).step bb,(F12.out.2.2.2.2.1).below bb,nn,(F12.out.2.2.2.2.2).trans (bb.mono (F12.out.2.2.2.2.2).size)⟩
 clear F12
 clear bb nn
 clear SH
 have SM2:=fun W=>dR m2 hm2 W
 go_wp2_with fail
 all_goals first | (exfalso;omega) | skip
 refine (SM2 _).mono ?_
 rintro o14 w14 ⟨v9,rfl,nn,bb⟩
 have F14:Hid (Bk w14 (w.heap.size) [.string ⟨#[]⟩,vI 0,.bool false]/\Bk w14 (w.heap.size+1) [.string ⟨#[]⟩,vI 0,.bool false]/\Bk w14 (w8.heap.size) [.string t,vI q,.bool false]/\Bk w14 (w8.heap.size+1) [.string ⟨#[]⟩,vI 0,.bool false]/\Big.D.NatV w14 v7 (m)/\Big.D.NatV w14 v8 (m * 2 ^ D)/\Big.D.NatV w14 v9 (m2)/\Bl w w14):=⟨(F13.out.1).step bb,(F13.out.2.1).step bb,(F13.out.2.2.1).step bb,(F13.out.2.2.2.1).step bb,(F13.out.2.2.2.2.1).below bb,(F13.out.2.2.2.2.2.1).below bb,nn,(F13.out.2.2.2.2.2.2).trans (bb.mono (F13.out.2.2.2.2.2.2).size)⟩
 clear F13
 clear bb nn
 have fm2:Fits 2 m2:=Fits.word (n:=1) (by unfold B;omega)
 have SA:=gX (F14.out.2.2.2.2.2.1) (F14.out.2.2.2.2.2.2.1) ((HFM.out.mul (aZ (s:=D) (k:=1) (by omega))).up (by omega)) (fm2.up (by omega))
 clear fm2
 go_wp2_with fail
 all_goals first | (exfalso;omega) | skip
 refine (SA).mono ?_
 rintro o15 w15 ⟨v10,rfl,nn,bb⟩
 have F15:Hid (Bk w15 (w.heap.size) [.string ⟨#[]⟩,vI 0,.bool false]/\Bk w15 (w.heap.size+1) [.string ⟨#[]⟩,vI 0,.bool false]/\Bk w15 (w8.heap.size) [.string t,vI q,.bool false]/\Bk w15 (w8.heap.size+1) [.string ⟨#[]⟩,vI 0,.bool false]/\Big.D.NatV w15 v7 (m)/\Big.D.NatV w15 v8 (m * 2 ^ D)/\Big.D.NatV w15 v9 (m2)/\Big.D.NatV w15 v10 (m * 2 ^ D+m2)/\Bl w w15):=⟨(F14.out.1).step bb,(F14.out.2.1).step bb,(F14.out.2.2.1).step bb,(F14.out.2.2.2.1).step bb,(F14.out.2.2.2.2.1).below bb,(F14.out.2.2.2.2.2.1).below bb,(F14.out.2.2.2.2.2.2.1).below bb,nn,(F14.out.2.2.2.2.2.2.2).trans (bb.mono (F14.out.2.2.2.2.2.2.2).size)⟩
 clear F14
 clear bb nn
 clear SA
 go_wp2_with fail
 all_goals first | (exfalso;omega) | skip
 refine (HD2 _ _ (F15.out.2.2.2.2.2.2.2.1)).mono ?_
 rintro o16 w16 ⟨rfl,bb⟩
 have F16:Hid (Bk w16 (w.heap.size) [.string ⟨#[]⟩,vI 0,.bool false]/\Bk w16 (w.heap.size+1) [.string ⟨#[]⟩,vI 0,.bool false]/\Bk w16 (w8.heap.size) [.string t,vI q,.bool false]/\Bk w16 (w8.heap.size+1) [.string ⟨#[]⟩,vI 0,.bool false]/\Big.D.NatV w16 v7 (m)/\Big.D.NatV w16 v8 (m * 2 ^ D)/\Big.D.NatV w16 v9 (m2)/\Big.D.NatV w16 v10 (m * 2 ^ D+m2)/\Bl w w16):=⟨(F15.out.1).step bb,(F15.out.2.1).step bb,(F15.out.2.2.1).step bb,(F15.out.2.2.2.1).step bb,(F15.out.2.2.2.2.1).below bb,(F15.out.2.2.2.2.2.1).below bb,(F15.out.2.2.2.2.2.2.1).below bb,(F15.out.2.2.2.2.2.2.2.1).below bb,(F15.out.2.2.2.2.2.2.2.2).trans (bb.mono (F15.out.2.2.2.2.2.2.2.2).size)⟩
 clear F15
 clear bb
 have F17:Hid (Bk w16 (w.heap.size) [.string ⟨#[]⟩,vI 0,.bool false]/\Bk w16 (w.heap.size+1) [.string ⟨#[]⟩,vI 0,.bool false]/\Bk w16 (w8.heap.size) [.string t,vI q,.bool false]/\Bk w16 (w8.heap.size+1) [.string ⟨#[]⟩,vI 0,.bool false]/\Bl w w16):=⟨F16.out.1,F16.out.2.1,F16.out.2.2.1,F16.out.2.2.2.1,F16.out.2.2.2.2.2.2.2.2⟩
 clear F16
 clear l2_0 a2_0_0 f2_0_0 a2_0_1 f2_0_1 a2_0_2 f2_0_2 l2_1 a2_1_0 f2_1_0 a2_1_1 f2_1_1 a2_1_2 f2_1_2 l2_2 a2_2_0 f2_2_0 a2_2_1 f2_2_1 a2_2_2 f2_2_2 l2_3 a2_3_0 f2_3_0 a2_3_1 f2_3_1 a2_3_2 f2_3_2
 have l3_0:=F17.out.1.lt
 have a3_0_0:=F17.out.1.cell 0 _ rfl
 have f3_0_0:=F17.out.1.fz 0
 have a3_0_1:=F17.out.1.cell 1 _ rfl
 have f3_0_1:=F17.out.1.fz 1
 have a3_0_2:=F17.out.1.cell 2 _ rfl
 have f3_0_2:=F17.out.1.fz 2
 have l3_1:=F17.out.2.1.lt
 have a3_1_0:=F17.out.2.1.cell 0 _ rfl
 have f3_1_0:=F17.out.2.1.fz 0
 have a3_1_1:=F17.out.2.1.cell 1 _ rfl
 have f3_1_1:=F17.out.2.1.fz 1
 have a3_1_2:=F17.out.2.1.cell 2 _ rfl
 have f3_1_2:=F17.out.2.1.fz 2
 have l3_2:=F17.out.2.2.1.lt
 have a3_2_0:=F17.out.2.2.1.cell 0 _ rfl
 have f3_2_0:=F17.out.2.2.1.fz 0
 have a3_2_1:=F17.out.2.2.1.cell 1 _ rfl
 have f3_2_1:=F17.out.2.2.1.fz 1
 have a3_2_2:=F17.out.2.2.1.cell 2 _ rfl
 have f3_2_2:=F17.out.2.2.1.fz 2
 have l3_3:=F17.out.2.2.2.1.lt
 have a3_3_0:=F17.out.2.2.2.1.cell 0 _ rfl
 have f3_3_0:=F17.out.2.2.2.1.fz 0
 have a3_3_1:=F17.out.2.2.2.1.cell 1 _ rfl
 have f3_3_1:=F17.out.2.2.2.1.fz 1
 have a3_3_2:=F17.out.2.2.2.1.cell 2 _ rfl
 have f3_3_2:=F17.out.2.2.2.1.fz 2
 have ne3_0_1:¬ w.heap.size=w.heap.size+1:=by omega
 have ne3_0_2:¬ w.heap.size=w8.heap.size:=by omega
 have ne3_0_3:¬ w.heap.size=w8.heap.size+1:=by omega
 have ne3_1_0:¬ w.heap.size+1=w.heap.size:=by omega
 have ne3_1_2:¬ w.heap.size+1=w8.heap.size:=by omega
 have ne3_1_3:¬ w.heap.size+1=w8.heap.size+1:=by omega
 have ne3_2_0:¬ w8.heap.size=w.heap.size:=by omega
 have ne3_2_1:¬ w8.heap.size=w.heap.size+1:=by omega
 have ne3_2_3:¬ w8.heap.size=w8.heap.size+1:=by omega
 have ne3_3_0:¬ w8.heap.size+1=w.heap.size:=by omega
 have ne3_3_1:¬ w8.heap.size+1=w.heap.size+1:=by omega
 have ne3_3_2:¬ w8.heap.size+1=w8.heap.size:=by omega
 go_upto_region 11 with fail
 go_region_held3 (fun w'=>w'.cell? ⟨w8.heap.size,0,none⟩=some (.string t)/\w'.cell? ⟨w8.heap.size,1,none⟩=some (vI q)/\w'.cell? ⟨w8.heap.size,2,none⟩=some (.bool false)/\w'.cell? ⟨w8.heap.size+1,0,none⟩=some (.string s)/\w'.cell? ⟨w8.heap.size+1,1,none⟩=some (vI p)/\w'.cell? ⟨w8.heap.size+1,2,none⟩=some (.bool false)) (simp [*,go_sem,World.cell?_setCell_same,World.cell?_setCell_other]) (fail)
 go_wp2
 refine bodyPost_ret (v:=.tuple #[.agg #[.string s,vI p,.bool false],.agg #[.string t,vI q,.bool false],.bool cB,vI 0]) (by simp [results,Tryz.results47,go_sem,World.cell?_setCell_same,World.cell?_setCell_other, *]) rfl ⟨rfl,?_⟩
 refine Below.drew ?_
 repeat (first | refine Below.setCell ?_ (by first | exact Nat.le_refl _ | (dsimp only;omega)) _ | refine Below.alloc ?_ (by first | exact Nat.le_refl _ | omega | (simp;omega)) _ | refine Below.drew ?_)
 exact F17.out.2.2.2.2
theorem aAJ {s t u:ByteArray}{p q o:Int}{c:Bool}{b z:Int}{r:Bool}(h0:(u.size:Int)=0) (hr:((s.size:Int) == 0)=r) (HB:∀ W,Cb 47 #[vU b,vI z] W (.tuple #[.agg #[.string s,vI p,.bool false],.agg #[.string t,vI q,.bool false],.bool c,vI 0])) (HV:∀ W,Cb 19 #[.agg #[.string u,vI o,.bool false]] W (vI 0)) (w:World) :
 Cb 25 #[.agg #[.string u,vI o,.bool false],vU b,vI z] w (.tuple #[.bool r,vI 0]):=by
 have F0:Hid (Bk (w.alloc (.cells #[.string u,vI o,.bool false] 24)) (w.heap.size) [.string u,vI o,.bool false]/\Bl w (w.alloc (.cells #[.string u,vI o,.bool false] 24))):=⟨Bk.new3 w (.string u) (vI o) (.bool false) 24,((Below.refl w.heap.size w)).alloc (Nat.le_refl _) _⟩
 go_enter Tryz.func25,Tryz.ntmps25
 go_upto_region 1 with fail
 generalize (w.alloc (.cells #[.string u,vI o,.bool false] 24))=w1 at *
 go_wp2_with fail
 all_goals first | (exfalso;omega) | skip
 refine (HB _).mono ?_
 rintro o2 w2 ⟨rfl,bb⟩
 have F1:Hid (Bk w2 (w.heap.size) [.string u,vI o,.bool false]/\Bl w w2):=⟨(F0.out.1).step bb,(F0.out.2).trans (bb.mono (F0.out.2).size)⟩
 clear F0
 clear bb
 have lt0_1:=(F1.out.1).lt
 have le1:=(F1.out.2).size
 have F2:Hid (Bk ((w2.alloc (.cells #[.string s,vI p,.bool false] 24)).alloc (.cells #[.string t,vI q,.bool false] 24)) (w.heap.size) [.string u,vI o,.bool false]/\Bk ((w2.alloc (.cells #[.string s,vI p,.bool false] 24)).alloc (.cells #[.string t,vI q,.bool false] 24)) (w2.heap.size) [.string s,vI p,.bool false]/\Bk ((w2.alloc (.cells #[.string s,vI p,.bool false] 24)).alloc (.cells #[.string t,vI q,.bool false] 24)) (w2.heap.size+1) [.string t,vI q,.bool false]/\Bl w ((w2.alloc (.cells #[.string s,vI p,.bool false] 24)).alloc (.cells #[.string t,vI q,.bool false] 24))):=⟨((F1.out.1).step (bz _ _)).step (bz _ _),(Bk.new3 w2 (.string s) (vI p) (.bool false) 24).step (bz _ _),((by have q:=Bk.new3 (w2.alloc (.cells #[.string s,vI p,.bool false] 24)) (.string t) (vI q) (.bool false) 24;simpa using q):Bk ((w2.alloc (.cells #[.string s,vI p,.bool false] 24)).alloc (.cells #[.string t,vI q,.bool false] 24)) (w2.heap.size+1) [.string t,vI q,.bool false]),((F1.out.2).alloc ((F1.out.2).size) _).alloc (((F1.out.2).alloc ((F1.out.2).size) _).size) _⟩
 clear F1
 go_upto_region 2 with fail
 generalize ((w2.alloc (.cells #[.string s,vI p,.bool false] 24)).alloc (.cells #[.string t,vI q,.bool false] 24))=w3 at *
 have l1_0:=F2.out.1.lt
 have a1_0_0:=F2.out.1.cell 0 _ rfl
 have f1_0_0:=F2.out.1.fz 0
 have a1_0_1:=F2.out.1.cell 1 _ rfl
 have f1_0_1:=F2.out.1.fz 1
 have a1_0_2:=F2.out.1.cell 2 _ rfl
 have f1_0_2:=F2.out.1.fz 2
 have l1_1:=F2.out.2.1.lt
 have a1_1_0:=F2.out.2.1.cell 0 _ rfl
 have f1_1_0:=F2.out.2.1.fz 0
 have a1_1_1:=F2.out.2.1.cell 1 _ rfl
 have f1_1_1:=F2.out.2.1.fz 1
 have a1_1_2:=F2.out.2.1.cell 2 _ rfl
 have f1_1_2:=F2.out.2.1.fz 2
 have l1_2:=F2.out.2.2.1.lt
 have a1_2_0:=F2.out.2.2.1.cell 0 _ rfl
 have f1_2_0:=F2.out.2.2.1.fz 0
 have a1_2_1:=F2.out.2.2.1.cell 1 _ rfl
 have f1_2_1:=F2.out.2.2.1.fz 1
 have a1_2_2:=F2.out.2.2.1.cell 2 _ rfl
 have f1_2_2:=F2.out.2.2.1.fz 2
 have ne1_0_1:¬ w.heap.size=w2.heap.size:=by omega
 have ne1_0_2:¬ w.heap.size=w2.heap.size+1:=by omega
 have ne1_1_0:¬ w2.heap.size=w.heap.size:=by omega
 have ne1_1_2:¬ w2.heap.size=w2.heap.size+1:=by omega
 have ne1_2_0:¬ w2.heap.size+1=w.heap.size:=by omega
 have ne1_2_1:¬ w2.heap.size+1=w2.heap.size:=by omega
 go_wp2_with fail
 all_goals first | (exfalso;omega) | skip
 refine (HV _).mono ?_
 rintro o4 w4 ⟨rfl,bb⟩
 have F3:Hid (Bk w4 (w.heap.size) [.string u,vI o,.bool false]/\Bk w4 (w2.heap.size) [.string s,vI p,.bool false]/\Bk w4 (w2.heap.size+1) [.string t,vI q,.bool false]/\Bl w w4):=⟨(F2.out.1).step bb,(F2.out.2.1).step bb,(F2.out.2.2.1).step bb,(F2.out.2.2.2).trans (bb.mono (F2.out.2.2.2).size)⟩
 clear F2
 clear bb
 clear l1_0 a1_0_0 f1_0_0 a1_0_1 f1_0_1 a1_0_2 f1_0_2 l1_1 a1_1_0 f1_1_0 a1_1_1 f1_1_1 a1_1_2 f1_1_2 l1_2 a1_2_0 f1_2_0 a1_2_1 f1_2_1 a1_2_2 f1_2_2
 have l2_0:=F3.out.1.lt
 have a2_0_0:=F3.out.1.cell 0 _ rfl
 have f2_0_0:=F3.out.1.fz 0
 have a2_0_1:=F3.out.1.cell 1 _ rfl
 have f2_0_1:=F3.out.1.fz 1
 have a2_0_2:=F3.out.1.cell 2 _ rfl
 have f2_0_2:=F3.out.1.fz 2
 have l2_1:=F3.out.2.1.lt
 have a2_1_0:=F3.out.2.1.cell 0 _ rfl
 have f2_1_0:=F3.out.2.1.fz 0
 have a2_1_1:=F3.out.2.1.cell 1 _ rfl
 have f2_1_1:=F3.out.2.1.fz 1
 have a2_1_2:=F3.out.2.1.cell 2 _ rfl
 have f2_1_2:=F3.out.2.1.fz 2
 have l2_2:=F3.out.2.2.1.lt
 have a2_2_0:=F3.out.2.2.1.cell 0 _ rfl
 have f2_2_0:=F3.out.2.2.1.fz 0
 have a2_2_1:=F3.out.2.2.1.cell 1 _ rfl
 have f2_2_1:=F3.out.2.2.1.fz 1
 have a2_2_2:=F3.out.2.2.1.cell 2 _ rfl
 have f2_2_2:=F3.out.2.2.1.fz 2
 have ne2_0_1:¬ w.heap.size=w2.heap.size:=by omega
 have ne2_0_2:¬ w.heap.size=w2.heap.size+1:=by omega
 have ne2_1_0:¬ w2.heap.size=w.heap.size:=by omega
 have ne2_1_2:¬ w2.heap.size=w2.heap.size+1:=by omega
 have ne2_2_0:¬ w2.heap.size+1=w.heap.size:=by omega
 have ne2_2_1:¬ w2.heap.size+1=w2.heap.size:=by omega
 go_wp2
 go_ret2
 exact ⟨rfl,F3.out.2.2.2⟩
theorem aDs {s t u:ByteArray}{p q o:Int}{c:Bool}{b z:Int}{r:Bool}(h0:((u.size:Int) == 0)=false) (HB:∀ W,Cb 47 #[vU b,vI z] W (.tuple #[.agg #[.string s,vI p,.bool false],.agg #[.string t,vI q,.bool false],.bool c,vI 0])) (HV:∀ W,Cb 19 #[.agg #[.string u,vI o,.bool false]] W (vI 0)) (HW:∀ W,Cb 48 #[.agg #[.string u,vI o,.bool false],.agg #[.string s,vI p,.bool false],.agg #[.string t,vI q,.bool false],.bool c] W (.bool r)) (w:World) :
 Cb 25 #[.agg #[.string u,vI o,.bool false],vU b,vI z] w (.tuple #[.bool r,vI 0]):=by
 have F0:Hid (Bk (w.alloc (.cells #[.string u,vI o,.bool false] 24)) (w.heap.size) [.string u,vI o,.bool false]/\Bl w (w.alloc (.cells #[.string u,vI o,.bool false] 24))):=⟨Bk.new3 w (.string u) (vI o) (.bool false) 24,((Below.refl w.heap.size w)).alloc (Nat.le_refl _) _⟩
 go_enter Tryz.func25,Tryz.ntmps25
 go_upto_region 1 with fail
 generalize (w.alloc (.cells #[.string u,vI o,.bool false] 24))=w1 at *
 go_wp2_with fail
 all_goals first | (exfalso;omega) | skip
 refine (HB _).mono ?_
 rintro o2 w2 ⟨rfl,bb⟩
 have F1:Hid (Bk w2 (w.heap.size) [.string u,vI o,.bool false]/\Bl w w2):=⟨(F0.out.1).step bb,(F0.out.2).trans (bb.mono (F0.out.2).size)⟩
 clear F0
 clear bb
 have lt0_1:=(F1.out.1).lt
 have le1:=(F1.out.2).size
 have F2:Hid (Bk ((w2.alloc (.cells #[.string s,vI p,.bool false] 24)).alloc (.cells #[.string t,vI q,.bool false] 24)) (w.heap.size) [.string u,vI o,.bool false]/\Bk ((w2.alloc (.cells #[.string s,vI p,.bool false] 24)).alloc (.cells #[.string t,vI q,.bool false] 24)) (w2.heap.size) [.string s,vI p,.bool false]/\Bk ((w2.alloc (.cells #[.string s,vI p,.bool false] 24)).alloc (.cells #[.string t,vI q,.bool false] 24)) (w2.heap.size+1) [.string t,vI q,.bool false]/\Bl w ((w2.alloc (.cells #[.string s,vI p,.bool false] 24)).alloc (.cells #[.string t,vI q,.bool false] 24))):=⟨((F1.out.1).step (bz _ _)).step (bz _ _),(Bk.new3 w2 (.string s) (vI p) (.bool false) 24).step (bz _ _),((by have q:=Bk.new3 (w2.alloc (.cells #[.string s,vI p,.bool false] 24)) (.string t) (vI q) (.bool false) 24;simpa using q):Bk ((w2.alloc (.cells #[.string s,vI p,.bool false] 24)).alloc (.cells #[.string t,vI q,.bool false] 24)) (w2.heap.size+1) [.string t,vI q,.bool false]),((F1.out.2).alloc ((F1.out.2).size) _).alloc (((F1.out.2).alloc ((F1.out.2).size) _).size) _⟩
 clear F1
 go_upto_region 2 with fail
 generalize ((w2.alloc (.cells #[.string s,vI p,.bool false] 24)).alloc (.cells #[.string t,vI q,.bool false] 24))=w3 at *
 have l1_0:=F2.out.1.lt
 have a1_0_0:=F2.out.1.cell 0 _ rfl
 have f1_0_0:=F2.out.1.fz 0
 have a1_0_1:=F2.out.1.cell 1 _ rfl
 have f1_0_1:=F2.out.1.fz 1
 have a1_0_2:=F2.out.1.cell 2 _ rfl
 have f1_0_2:=F2.out.1.fz 2
 have l1_1:=F2.out.2.1.lt
 have a1_1_0:=F2.out.2.1.cell 0 _ rfl
 have f1_1_0:=F2.out.2.1.fz 0
 have a1_1_1:=F2.out.2.1.cell 1 _ rfl
 have f1_1_1:=F2.out.2.1.fz 1
 have a1_1_2:=F2.out.2.1.cell 2 _ rfl
 have f1_1_2:=F2.out.2.1.fz 2
 have l1_2:=F2.out.2.2.1.lt
 have a1_2_0:=F2.out.2.2.1.cell 0 _ rfl
 have f1_2_0:=F2.out.2.2.1.fz 0
 have a1_2_1:=F2.out.2.2.1.cell 1 _ rfl
 have f1_2_1:=F2.out.2.2.1.fz 1
 have a1_2_2:=F2.out.2.2.1.cell 2 _ rfl
 have f1_2_2:=F2.out.2.2.1.fz 2
 have ne1_0_1:¬ w.heap.size=w2.heap.size:=by omega
 have ne1_0_2:¬ w.heap.size=w2.heap.size+1:=by omega
 have ne1_1_0:¬ w2.heap.size=w.heap.size:=by omega
 have ne1_1_2:¬ w2.heap.size=w2.heap.size+1:=by omega
 have ne1_2_0:¬ w2.heap.size+1=w.heap.size:=by omega
 have ne1_2_1:¬ w2.heap.size+1=w2.heap.size:=by omega
 go_wp2_with fail
 all_goals first | (exfalso;omega) | skip
 refine (HV _).mono ?_
 rintro o4 w4 ⟨rfl,bb⟩
 have F3:Hid (Bk w4 (w.heap.size) [.string u,vI o,.bool false]/\Bk w4 (w2.heap.size) [.string s,vI p,.bool false]/\Bk w4 (w2.heap.size+1) [.string t,vI q,.bool false]/\Bl w w4):=⟨(F2.out.1).step bb,(F2.out.2.1).step bb,(F2.out.2.2.1).step bb,(F2.out.2.2.2).trans (bb.mono (F2.out.2.2.2).size)⟩
 clear F2
 clear bb
 clear l1_0 a1_0_0 f1_0_0 a1_0_1 f1_0_1 a1_0_2 f1_0_2 l1_1 a1_1_0 f1_1_0 a1_1_1 f1_1_1 a1_1_2 f1_1_2 l1_2 a1_2_0 f1_2_0 a1_2_1 f1_2_1 a1_2_2 f1_2_2
 have l2_0:=F3.out.1.lt
 have a2_0_0:=F3.out.1.cell 0 _ rfl
 have f2_0_0:=F3.out.1.fz 0
 have a2_0_1:=F3.out.1.cell 1 _ rfl
 have f2_0_1:=F3.out.1.fz 1
 have a2_0_2:=F3.out.1.cell 2 _ rfl
 have f2_0_2:=F3.out.1.fz 2
 have l2_1:=F3.out.2.1.lt
 have a2_1_0:=F3.out.2.1.cell 0 _ rfl
 have f2_1_0:=F3.out.2.1.fz 0
 have a2_1_1:=F3.out.2.1.cell 1 _ rfl
 have f2_1_1:=F3.out.2.1.fz 1
 have a2_1_2:=F3.out.2.1.cell 2 _ rfl
 have f2_1_2:=F3.out.2.1.fz 2
 have l2_2:=F3.out.2.2.1.lt
 have a2_2_0:=F3.out.2.2.1.cell 0 _ rfl
 have f2_2_0:=F3.out.2.2.1.fz 0
 have a2_2_1:=F3.out.2.2.1.cell 1 _ rfl
 have f2_2_1:=F3.out.2.2.1.fz 1
 have a2_2_2:=F3.out.2.2.1.cell 2 _ rfl
 have f2_2_2:=F3.out.2.2.1.fz 2
 have ne2_0_1:¬ w.heap.size=w2.heap.size:=by omega
 have ne2_0_2:¬ w.heap.size=w2.heap.size+1:=by omega
 have ne2_1_0:¬ w2.heap.size=w.heap.size:=by omega
 have ne2_1_2:¬ w2.heap.size=w2.heap.size+1:=by omega
 have ne2_2_0:¬ w2.heap.size+1=w.heap.size:=by omega
 have ne2_2_1:¬ w2.heap.size+1=w2.heap.size:=by omega
 go_wp2_with fail
 all_goals first | (exfalso;omega) | skip
 refine (HW _).mono ?_
 rintro o5 w5 ⟨rfl,bb⟩
 have F4:Hid (Bk w5 (w.heap.size) [.string u,vI o,.bool false]/\Bk w5 (w2.heap.size) [.string s,vI p,.bool false]/\Bk w5 (w2.heap.size+1) [.string t,vI q,.bool false]/\Bl w w5):=⟨(F3.out.1).step bb,(F3.out.2.1).step bb,(F3.out.2.2.1).step bb,(F3.out.2.2.2).trans (bb.mono (F3.out.2.2.2).size)⟩
 clear F3
 clear bb
 go_wp2
 go_ret2
 exact ⟨rfl,F4.out.2.2.2⟩
theorem aBU {b z:Int}{n:Int}{u u1 u2:ByteArray}{o o1 o2:Int}{r1 r2:Bool}(HE:∀ W,Cb 18 #[vU b,vI z] W (.tuple #[.agg #[.string u,vI o,.bool false],vI 0])) (HD:∀ W,Cb 78 #[.agg #[.string u,vI o,.bool false],vI n] W (.tuple #[.agg #[.string u1,vI o1,.bool false],vI 0])) (HU:∀ W,Cb 79 #[.agg #[.string u,vI o,.bool false],vI n] W (.tuple #[.agg #[.string u2,vI o2,.bool false],vI 0])) (H1:∀ W,Cb 25 #[.agg #[.string u1,vI o1,.bool false],vU b,vI z] W (.tuple #[.bool r1,vI 0])) (H2:∀ W,Cb 25 #[.agg #[.string u2,vI o2,.bool false],vU b,vI z] W (.tuple #[.bool r2,vI 0])) (w:World) :
 Cb 43 #[vU b,vI z,vI n] w (.tuple #[.agg #[.string u1,vI o1,.bool false],.bool r1,.agg #[.string u2,vI o2,.bool false],.bool r2]):=by
 have F0:Hid (Bk ((w.alloc (.cells #[.string ⟨#[]⟩,vI 0,.bool false] 24)).alloc (.cells #[.string ⟨#[]⟩,vI 0,.bool false] 24)) (w.heap.size) [.string ⟨#[]⟩,vI 0,.bool false]/\Bk ((w.alloc (.cells #[.string ⟨#[]⟩,vI 0,.bool false] 24)).alloc (.cells #[.string ⟨#[]⟩,vI 0,.bool false] 24)) (w.heap.size+1) [.string ⟨#[]⟩,vI 0,.bool false]/\Bl w ((w.alloc (.cells #[.string ⟨#[]⟩,vI 0,.bool false] 24)).alloc (.cells #[.string ⟨#[]⟩,vI 0,.bool false] 24))):=⟨(Bk.new3 w (.string ⟨#[]⟩) (vI 0) (.bool false) 24).step (bz _ _),((by have q:=Bk.new3 (w.alloc (.cells #[.string ⟨#[]⟩,vI 0,.bool false] 24)) (.string ⟨#[]⟩) (vI 0) (.bool false) 24;simpa using q):Bk ((w.alloc (.cells #[.string ⟨#[]⟩,vI 0,.bool false] 24)).alloc (.cells #[.string ⟨#[]⟩,vI 0,.bool false] 24)) (w.heap.size+1) [.string ⟨#[]⟩,vI 0,.bool false]),(((Below.refl w.heap.size w)).alloc (Nat.le_refl _) _).alloc ((((Below.refl w.heap.size w)).alloc (Nat.le_refl _) _).size) _⟩
 go_enter Tryz.func43,Tryz.ntmps43
 go_upto_region 1 with fail
 generalize ((w.alloc (.cells #[.string ⟨#[]⟩,vI 0,.bool false] 24)).alloc (.cells #[.string ⟨#[]⟩,vI 0,.bool false] 24))=w1 at *
 go_wp2_with fail
 all_goals first | (exfalso;omega) | skip
 refine (HE _).mono ?_
 rintro o2 w2 ⟨rfl,bb⟩
 have F1:Hid (Bk w2 (w.heap.size) [.string ⟨#[]⟩,vI 0,.bool false]/\Bk w2 (w.heap.size+1) [.string ⟨#[]⟩,vI 0,.bool false]/\Bl w w2):=⟨(F0.out.1).step bb,(F0.out.2.1).step bb,(F0.out.2.2).trans (bb.mono (F0.out.2.2).size)⟩
 clear F0
 clear bb
 have lt0_2:=(F1.out.1).lt
 have lt1_2:=(F1.out.2.1).lt
 have le2:=(F1.out.2.2).size
 have F2:Hid (Bk (w2.alloc (.cells #[.string u,vI o,.bool false] 24)) (w.heap.size) [.string ⟨#[]⟩,vI 0,.bool false]/\Bk (w2.alloc (.cells #[.string u,vI o,.bool false] 24)) (w.heap.size+1) [.string ⟨#[]⟩,vI 0,.bool false]/\Bk (w2.alloc (.cells #[.string u,vI o,.bool false] 24)) (w2.heap.size) [.string u,vI o,.bool false]/\Bl w (w2.alloc (.cells #[.string u,vI o,.bool false] 24))):=⟨(F1.out.1).step (bz _ _),(F1.out.2.1).step (bz _ _),Bk.new3 w2 (.string u) (vI o) (.bool false) 24,(F1.out.2.2).alloc ((F1.out.2.2).size) _⟩
 clear F1
 go_upto_region 2 with fail
 generalize (w2.alloc (.cells #[.string u,vI o,.bool false] 24))=w3 at *
 have l1_0:=F2.out.1.lt
 have a1_0_0:=F2.out.1.cell 0 _ rfl
 have f1_0_0:=F2.out.1.fz 0
 have a1_0_1:=F2.out.1.cell 1 _ rfl
 have f1_0_1:=F2.out.1.fz 1
 have a1_0_2:=F2.out.1.cell 2 _ rfl
 have f1_0_2:=F2.out.1.fz 2
 have l1_1:=F2.out.2.1.lt
 have a1_1_0:=F2.out.2.1.cell 0 _ rfl
 have f1_1_0:=F2.out.2.1.fz 0
 have a1_1_1:=F2.out.2.1.cell 1 _ rfl
 have f1_1_1:=F2.out.2.1.fz 1
 have a1_1_2:=F2.out.2.1.cell 2 _ rfl
 have f1_1_2:=F2.out.2.1.fz 2
 have l1_2:=F2.out.2.2.1.lt
 have a1_2_0:=F2.out.2.2.1.cell 0 _ rfl
 have f1_2_0:=F2.out.2.2.1.fz 0
 have a1_2_1:=F2.out.2.2.1.cell 1 _ rfl
 have f1_2_1:=F2.out.2.2.1.fz 1
 have a1_2_2:=F2.out.2.2.1.cell 2 _ rfl
 have f1_2_2:=F2.out.2.2.1.fz 2
 have ne1_0_1:¬ w.heap.size=w.heap.size+1:=by omega
 have ne1_0_2:¬ w.heap.size=w2.heap.size:=by omega
 have ne1_1_0:¬ w.heap.size+1=w.heap.size:=by omega
 have ne1_1_2:¬ w.heap.size+1=w2.heap.size:=by omega
 have ne1_2_0:¬ w2.heap.size=w.heap.size:=by omega
 have ne1_2_1:¬ w2.heap.size=w.heap.size+1:=by omega
 go_wp2_with fail
 all_goals first | (exfalso;omega) | skip
 refine (HD _).mono ?_
 rintro o4 w4 ⟨rfl,bb⟩
 have F3:Hid (Bk w4 (w.heap.size) [.string ⟨#[]⟩,vI 0,.bool false]/\Bk w4 (w.heap.size+1) [.string ⟨#[]⟩,vI 0,.bool false]/\Bk w4 (w2.heap.size) [.string u,vI o,.bool false]/\Bl w w4):=⟨(F2.out.1).step bb,(F2.out.2.1).step bb,(F2.out.2.2.1).step bb,(F2.out.2.2.2).trans (bb.mono (F2.out.2.2.2).size)⟩
 clear F2
 clear bb
 clear l1_0 a1_0_0 f1_0_0 a1_0_1 f1_0_1 a1_0_2 f1_0_2 l1_1 a1_1_0 f1_1_0 a1_1_1 f1_1_1 a1_1_2 f1_1_2 l1_2 a1_2_0 f1_2_0 a1_2_1 f1_2_1 a1_2_2 f1_2_2
 have lt0_3:=(F3.out.1).lt
 have lt1_3:=(F3.out.2.1).lt
 have lt2_3:=(F3.out.2.2.1).lt
 have le3:=(F3.out.2.2.2).size
 have F4:Hid (Bk (w4.alloc (.cells #[.string u1,vI o1,.bool false] 24)) (w.heap.size) [.string ⟨#[]⟩,vI 0,.bool false]/\Bk (w4.alloc (.cells #[.string u1,vI o1,.bool false] 24)) (w.heap.size+1) [.string ⟨#[]⟩,vI 0,.bool false]/\Bk (w4.alloc (.cells #[.string u1,vI o1,.bool false] 24)) (w2.heap.size) [.string u,vI o,.bool false]/\Bk (w4.alloc (.cells #[.string u1,vI o1,.bool false] 24)) (w4.heap.size) [.string u1,vI o1,.bool false]/\Bl w (w4.alloc (.cells #[.string u1,vI o1,.bool false] 24))):=⟨(F3.out.1).step (bz _ _),(F3.out.2.1).step (bz _ _),(F3.out.2.2.1).step (bz _ _),Bk.new3 w4 (.string u1) (vI o1) (.bool false) 24,(F3.out.2.2.2).alloc ((F3.out.2.2.2).size) _⟩
 clear F3
 go_upto_region 3 with fail
 generalize (w4.alloc (.cells #[.string u1,vI o1,.bool false] 24))=w5 at *
 have l2_0:=F4.out.1.lt
 have a2_0_0:=F4.out.1.cell 0 _ rfl
 have f2_0_0:=F4.out.1.fz 0
 have a2_0_1:=F4.out.1.cell 1 _ rfl
 have f2_0_1:=F4.out.1.fz 1
 have a2_0_2:=F4.out.1.cell 2 _ rfl
 have f2_0_2:=F4.out.1.fz 2
 have l2_1:=F4.out.2.1.lt
 have a2_1_0:=F4.out.2.1.cell 0 _ rfl
 have f2_1_0:=F4.out.2.1.fz 0
 have a2_1_1:=F4.out.2.1.cell 1 _ rfl
 have f2_1_1:=F4.out.2.1.fz 1
 have a2_1_2:=F4.out.2.1.cell 2 _ rfl
 have f2_1_2:=F4.out.2.1.fz 2
 have l2_2:=F4.out.2.2.1.lt
 have a2_2_0:=F4.out.2.2.1.cell 0 _ rfl
 have f2_2_0:=F4.out.2.2.1.fz 0
 have a2_2_1:=F4.out.2.2.1.cell 1 _ rfl
 have f2_2_1:=F4.out.2.2.1.fz 1
 have a2_2_2:=F4.out.2.2.1.cell 2 _ rfl
 have f2_2_2:=F4.out.2.2.1.fz 2
 have l2_3:=F4.out.2.2.2.1.lt
 have a2_3_0:=F4.out.2.2.2.1.cell 0 _ rfl
 have f2_3_0:=F4.out.2.2.2.1.fz 0
 have a2_3_1:=F4.out.2.2.2.1.cell 1 _ rfl
 have f2_3_1:=F4.out.2.2.2.1.fz 1
 have a2_3_2:=F4.out.2.2.2.1.cell 2 _ rfl
 have f2_3_2:=F4.out.2.2.2.1.fz 2
 have ne2_0_1:¬ w.heap.size=w.heap.size+1:=by omega
 have ne2_0_2:¬ w.heap.size=w2.heap.size:=by omega
 have ne2_0_3:¬ w.heap.size=w4.heap.size:=by omega
 have ne2_1_0:¬ w.heap.size+1=w.heap.size:=by omega
 have ne2_1_2:¬ w.heap.size+1=w2.heap.size:=by omega
 have ne2_1_3:¬ w.heap.size+1=w4.heap.size:=by omega
 have ne2_2_0:¬ w2.heap.size=w.heap.size:=by omega
 have ne2_2_1:¬ w2.heap.size=w.heap.size+1:=by omega
 have ne2_2_3:¬ w2.heap.size=w4.heap.size:=by omega
 have ne2_3_0:¬ w4.heap.size=w.heap.size:=by omega
 have ne2_3_1:¬ w4.heap.size=w.heap.size+1:=by omega
 have ne2_3_2:¬ w4.heap.size=w2.heap.size:=by omega
 go_wp2_with fail
 all_goals first | (exfalso;omega) | skip
 refine (HU _).mono ?_
 rintro o6 w6 ⟨rfl,bb⟩
 have F5:Hid (Bk w6 (w.heap.size) [.string ⟨#[]⟩,vI 0,.bool false]/\Bk w6 (w.heap.size+1) [.string ⟨#[]⟩,vI 0,.bool false]/\Bk w6 (w2.heap.size) [.string u,vI o,.bool false]/\Bk w6 (w4.heap.size) [.string u1,vI o1,.bool false]/\Bl w w6):=⟨(F4.out.1).step bb,(F4.out.2.1).step bb,(F4.out.2.2.1).step bb,(F4.out.2.2.2.1).step bb,(F4.out.2.2.2.2).trans (bb.mono (F4.out.2.2.2.2).size)⟩
 clear F4
 clear bb
 clear l2_0 a2_0_0 f2_0_0 a2_0_1 f2_0_1 a2_0_2 f2_0_2 l2_1 a2_1_0 f2_1_0 a2_1_1 f2_1_1 a2_1_2 f2_1_2 l2_2 a2_2_0 f2_2_0 a2_2_1 f2_2_1 a2_2_2 f2_2_2 l2_3 a2_3_0 f2_3_0 a2_3_1 f2_3_1 a2_3_2 f2_3_2
 have lt0_4:=(F5.out.1).lt
 have lt1_4:=(F5.out.2.1).lt
 have lt2_4:=(F5.out.2.2.1).lt
 have lt3_4:=(F5.out.2.2.2.1).lt
 have le4:=(F5.out.2.2.2.2).size
 have F6:Hid (Bk (w6.alloc (.cells #[.string u2,vI o2,.bool false] 24)) (w.heap.size) [.string ⟨#[]⟩,vI 0,.bool false]/\Bk (w6.alloc (.cells #[.string u2,vI o2,.bool false] 24)) (w.heap.size+1) [.string ⟨#[]⟩,vI 0,.bool false]/\Bk (w6.alloc (.cells #[.string u2,vI o2,.bool false] 24)) (w2.heap.size) [.string u,vI o,.bool false]/\Bk (w6.alloc (.cells #[.string u2,vI o2,.bool false] 24)) (w4.heap.size) [.string u1,vI o1,.bool false]/\Bk (w6.alloc (.cells #[.string u2,vI o2,.bool false] 24)) (w6.heap.size) [.string u2,vI o2,.bool false]/\Bl w (w6.alloc (.cells #[.string u2,vI o2,.bool false] 24))):=⟨(F5.out.1).step (bz _ _),(F5.out.2.1).step (bz _ _),(F5.out.2.2.1).step (bz _ _),(F5.out.2.2.2.1).step (bz _ _),Bk.new3 w6 (.string u2) (vI o2) (.bool false) 24,(F5.out.2.2.2.2).alloc ((F5.out.2.2.2.2).size) _⟩
 clear F5
 go_upto_region 4 with fail
 generalize (w6.alloc (.cells #[.string u2,vI o2,.bool false] 24))=w7 at *
 have l3_0:=F6.out.1.lt
 have a3_0_0:=F6.out.1.cell 0 _ rfl
 have f3_0_0:=F6.out.1.fz 0
 have a3_0_1:=F6.out.1.cell 1 _ rfl
 have f3_0_1:=F6.out.1.fz 1
 have a3_0_2:=F6.out.1.cell 2 _ rfl
 have f3_0_2:=F6.out.1.fz 2
 have l3_1:=F6.out.2.1.lt
 have a3_1_0:=F6.out.2.1.cell 0 _ rfl
 have f3_1_0:=F6.out.2.1.fz 0
 have a3_1_1:=F6.out.2.1.cell 1 _ rfl
 have f3_1_1:=F6.out.2.1.fz 1
 have a3_1_2:=F6.out.2.1.cell 2 _ rfl
 have f3_1_2:=F6.out.2.1.fz 2
 have l3_2:=F6.out.2.2.1.lt
 have a3_2_0:=F6.out.2.2.1.cell 0 _ rfl
 have f3_2_0:=F6.out.2.2.1.fz 0
 have a3_2_1:=F6.out.2.2.1.cell 1 _ rfl
 have f3_2_1:=F6.out.2.2.1.fz 1
 have a3_2_2:=F6.out.2.2.1.cell 2 _ rfl
 have f3_2_2:=F6.out.2.2.1.fz 2
 have l3_3:=F6.out.2.2.2.1.lt
 have a3_3_0:=F6.out.2.2.2.1.cell 0 _ rfl
 have f3_3_0:=F6.out.2.2.2.1.fz 0
 have a3_3_1:=F6.out.2.2.2.1.cell 1 _ rfl
 have f3_3_1:=F6.out.2.2.2.1.fz 1
 have a3_3_2:=F6.out.2.2.2.1.cell 2 _ rfl
 have f3_3_2:=F6.out.2.2.2.1.fz 2
 have l3_4:=F6.out.2.2.2.2.1.lt
 have a3_4_0:=F6.out.2.2.2.2.1.cell 0 _ rfl
 have f3_4_0:=F6.out.2.2.2.2.1.fz 0
 have a3_4_1:=F6.out.2.2.2.2.1.cell 1 _ rfl
 have f3_4_1:=F6.out.2.2.2.2.1.fz 1
 have a3_4_2:=F6.out.2.2.2.2.1.cell 2 _ rfl
 have f3_4_2:=F6.out.2.2.2.2.1.fz 2
 have ne3_0_1:¬ w.heap.size=w.heap.size+1:=by omega
 have ne3_0_2:¬ w.heap.size=w2.heap.size:=by omega
 have ne3_0_3:¬ w.heap.size=w4.heap.size:=by omega
 have ne3_0_4:¬ w.heap.size=w6.heap.size:=by omega
 have ne3_1_0:¬ w.heap.size+1=w.heap.size:=by omega
 have ne3_1_2:¬ w.heap.size+1=w2.heap.size:=by omega
 have ne3_1_3:¬ w.heap.size+1=w4.heap.size:=by omega
 have ne3_1_4:¬ w.heap.size+1=w6.heap.size:=by omega
 have ne3_2_0:¬ w2.heap.size=w.heap.size:=by omega
 have ne3_2_1:¬ w2.heap.size=w.heap.size+1:=by omega
 have ne3_2_3:¬ w2.heap.size=w4.heap.size:=by omega
 have ne3_2_4:¬ w2.heap.size=w6.heap.size:=by omega
 have ne3_3_0:¬ w4.heap.size=w.heap.size:=by omega
 have ne3_3_1:¬ w4.heap.size=w.heap.size+1:=by omega
 have ne3_3_2:¬ w4.heap.size=w2.heap.size:=by omega
 have ne3_3_4:¬ w4.heap.size=w6.heap.size:=by omega
 have ne3_4_0:¬ w6.heap.size=w.heap.size:=by omega
 have ne3_4_1:¬ w6.heap.size=w.heap.size+1:=by omega
 have ne3_4_2:¬ w6.heap.size=w2.heap.size:=by omega
 have ne3_4_3:¬ w6.heap.size=w4.heap.size:=by omega
 go_wp2_with fail
 all_goals first | (exfalso;omega) | skip
 refine (H1 _).mono ?_
 rintro o8 w8 ⟨rfl,bb⟩
 have F7:Hid (Bk w8 (w.heap.size) [.string ⟨#[]⟩,vI 0,.bool false]/\Bk w8 (w.heap.size+1) [.string ⟨#[]⟩,vI 0,.bool false]/\Bk w8 (w2.heap.size) [.string u,vI o,.bool false]/\Bk w8 (w4.heap.size) [.string u1,vI o1,.bool false]/\Bk w8 (w6.heap.size) [.string u2,vI o2,.bool false]/\Bl w w8):=⟨(F6.out.1).step bb,(F6.out.2.1).step bb,(F6.out.2.2.1).step bb,(F6.out.2.2.2.1).step bb,(F6.out.2.2.2.2.1).step bb,(F6.out.2.2.2.2.2).trans (bb.mono (F6.out.2.2.2.2.2).size)⟩
 clear F6
 clear bb
 clear l3_0 a3_0_0 f3_0_0 a3_0_1 f3_0_1 a3_0_2 f3_0_2 l3_1 a3_1_0 f3_1_0 a3_1_1 f3_1_1 a3_1_2 f3_1_2 l3_2 a3_2_0 f3_2_0 a3_2_1 f3_2_1 a3_2_2 f3_2_2 l3_3 a3_3_0 f3_3_0 a3_3_1 f3_3_1 a3_3_2 f3_3_2 l3_4 a3_4_0 f3_4_0 a3_4_1 f3_4_1 a3_4_2 f3_4_2
 have l4_0:=F7.out.1.lt
 have a4_0_0:=F7.out.1.cell 0 _ rfl
 have f4_0_0:=F7.out.1.fz 0
 have a4_0_1:=F7.out.1.cell 1 _ rfl
 have f4_0_1:=F7.out.1.fz 1
 have a4_0_2:=F7.out.1.cell 2 _ rfl
 have f4_0_2:=F7.out.1.fz 2
 have l4_1:=F7.out.2.1.lt
 have a4_1_0:=F7.out.2.1.cell 0 _ rfl
 have f4_1_0:=F7.out.2.1.fz 0
 have a4_1_1:=F7.out.2.1.cell 1 _ rfl
 have f4_1_1:=F7.out.2.1.fz 1
 have a4_1_2:=F7.out.2.1.cell 2 _ rfl
 have f4_1_2:=F7.out.2.1.fz 2
 have l4_2:=F7.out.2.2.1.lt
 have a4_2_0:=F7.out.2.2.1.cell 0 _ rfl
 have f4_2_0:=F7.out.2.2.1.fz 0
 have a4_2_1:=F7.out.2.2.1.cell 1 _ rfl
 have f4_2_1:=F7.out.2.2.1.fz 1
 have a4_2_2:=F7.out.2.2.1.cell 2 _ rfl
 have f4_2_2:=F7.out.2.2.1.fz 2
 have l4_3:=F7.out.2.2.2.1.lt
 have a4_3_0:=F7.out.2.2.2.1.cell 0 _ rfl
 have f4_3_0:=F7.out.2.2.2.1.fz 0
 have a4_3_1:=F7.out.2.2.2.1.cell 1 _ rfl
 have f4_3_1:=F7.out.2.2.2.1.fz 1
 have a4_3_2:=F7.out.2.2.2.1.cell 2 _ rfl
 have f4_3_2:=F7.out.2.2.2.1.fz 2
 have l4_4:=F7.out.2.2.2.2.1.lt
 have a4_4_0:=F7.out.2.2.2.2.1.cell 0 _ rfl
 have f4_4_0:=F7.out.2.2.2.2.1.fz 0
 have a4_4_1:=F7.out.2.2.2.2.1.cell 1 _ rfl
 have f4_4_1:=F7.out.2.2.2.2.1.fz 1
 have a4_4_2:=F7.out.2.2.2.2.1.cell 2 _ rfl
 have f4_4_2:=F7.out.2.2.2.2.1.fz 2
 have ne4_0_1:¬ w.heap.size=w.heap.size+1:=by omega
 have ne4_0_2:¬ w.heap.size=w2.heap.size:=by omega
 have ne4_0_3:¬ w.heap.size=w4.heap.size:=by omega
 have ne4_0_4:¬ w.heap.size=w6.heap.size:=by omega
 have ne4_1_0:¬ w.heap.size+1=w.heap.size:=by omega
 have ne4_1_2:¬ w.heap.size+1=w2.heap.size:=by omega
 have ne4_1_3:¬ w.heap.size+1=w4.heap.size:=by omega
 have ne4_1_4:¬ w.heap.size+1=w6.heap.size:=by omega
 have ne4_2_0:¬ w2.heap.size=w.heap.size:=by omega
 have ne4_2_1:¬ w2.heap.size=w.heap.size+1:=by omega
 have ne4_2_3:¬ w2.heap.size=w4.heap.size:=by omega
 have ne4_2_4:¬ w2.heap.size=w6.heap.size:=by omega
 have ne4_3_0:¬ w4.heap.size=w.heap.size:=by omega
 have ne4_3_1:¬ w4.heap.size=w.heap.size+1:=by omega
 have ne4_3_2:¬ w4.heap.size=w2.heap.size:=by omega
 have ne4_3_4:¬ w4.heap.size=w6.heap.size:=by omega
 have ne4_4_0:¬ w6.heap.size=w.heap.size:=by omega
 have ne4_4_1:¬ w6.heap.size=w.heap.size+1:=by omega
 have ne4_4_2:¬ w6.heap.size=w2.heap.size:=by omega
 have ne4_4_3:¬ w6.heap.size=w4.heap.size:=by omega
 go_wp2_with fail
 all_goals first | (exfalso;omega) | skip
 refine (H2 _).mono ?_
 rintro o9 w9 ⟨rfl,bb⟩
 have F8:Hid (Bk w9 (w.heap.size) [.string ⟨#[]⟩,vI 0,.bool false]/\Bk w9 (w.heap.size+1) [.string ⟨#[]⟩,vI 0,.bool false]/\Bk w9 (w2.heap.size) [.string u,vI o,.bool false]/\Bk w9 (w4.heap.size) [.string u1,vI o1,.bool false]/\Bk w9 (w6.heap.size) [.string u2,vI o2,.bool false]/\Bl w w9):=⟨(F7.out.1).step bb,(F7.out.2.1).step bb,(F7.out.2.2.1).step bb,(F7.out.2.2.2.1).step bb,(F7.out.2.2.2.2.1).step bb,(F7.out.2.2.2.2.2).trans (bb.mono (F7.out.2.2.2.2.2).size)⟩
 clear F7
 clear bb
 clear l4_0 a4_0_0 f4_0_0 a4_0_1 f4_0_1 a4_0_2 f4_0_2 l4_1 a4_1_0 f4_1_0 a4_1_1 f4_1_1 a4_1_2 f4_1_2 l4_2 a4_2_0 f4_2_0 a4_2_1 f4_2_1 a4_2_2 f4_2_2 l4_3 a4_3_0 f4_3_0 a4_3_1 f4_3_1 a4_3_2 f4_3_2 l4_4 a4_4_0 f4_4_0 a4_4_1 f4_4_1 a4_4_2 f4_4_2
 have l5_0:=F8.out.1.lt
 have a5_0_0:=F8.out.1.cell 0 _ rfl
 have f5_0_0:=F8.out.1.fz 0
 have a5_0_1:=F8.out.1.cell 1 _ rfl
 have f5_0_1:=F8.out.1.fz 1
 have a5_0_2:=F8.out.1.cell 2 _ rfl
 have f5_0_2:=F8.out.1.fz 2
 have l5_1:=F8.out.2.1.lt
 have a5_1_0:=F8.out.2.1.cell 0 _ rfl
 have f5_1_0:=F8.out.2.1.fz 0
 have a5_1_1:=F8.out.2.1.cell 1 _ rfl
 have f5_1_1:=F8.out.2.1.fz 1
 have a5_1_2:=F8.out.2.1.cell 2 _ rfl
 have f5_1_2:=F8.out.2.1.fz 2
 have l5_2:=F8.out.2.2.1.lt
 have a5_2_0:=F8.out.2.2.1.cell 0 _ rfl
 have f5_2_0:=F8.out.2.2.1.fz 0
 have a5_2_1:=F8.out.2.2.1.cell 1 _ rfl
 have f5_2_1:=F8.out.2.2.1.fz 1
 have a5_2_2:=F8.out.2.2.1.cell 2 _ rfl
 have f5_2_2:=F8.out.2.2.1.fz 2
 have l5_3:=F8.out.2.2.2.1.lt
 have a5_3_0:=F8.out.2.2.2.1.cell 0 _ rfl
 have f5_3_0:=F8.out.2.2.2.1.fz 0
 have a5_3_1:=F8.out.2.2.2.1.cell 1 _ rfl
 have f5_3_1:=F8.out.2.2.2.1.fz 1
 have a5_3_2:=F8.out.2.2.2.1.cell 2 _ rfl
 have f5_3_2:=F8.out.2.2.2.1.fz 2
 have l5_4:=F8.out.2.2.2.2.1.lt
 have a5_4_0:=F8.out.2.2.2.2.1.cell 0 _ rfl
 have f5_4_0:=F8.out.2.2.2.2.1.fz 0
 have a5_4_1:=F8.out.2.2.2.2.1.cell 1 _ rfl
 have f5_4_1:=F8.out.2.2.2.2.1.fz 1
 have a5_4_2:=F8.out.2.2.2.2.1.cell 2 _ rfl
 have f5_4_2:=F8.out.2.2.2.2.1.fz 2
 have ne5_0_1:¬ w.heap.size=w.heap.size+1:=by omega
 have ne5_0_2:¬ w.heap.size=w2.heap.size:=by omega
 have ne5_0_3:¬ w.heap.size=w4.heap.size:=by omega
 have ne5_0_4:¬ w.heap.size=w6.heap.size:=by omega
 have ne5_1_0:¬ w.heap.size+1=w.heap.size:=by omega
 have ne5_1_2:¬ w.heap.size+1=w2.heap.size:=by omega
 have ne5_1_3:¬ w.heap.size+1=w4.heap.size:=by omega
 have ne5_1_4:¬ w.heap.size+1=w6.heap.size:=by omega
 have ne5_2_0:¬ w2.heap.size=w.heap.size:=by omega
 have ne5_2_1:¬ w2.heap.size=w.heap.size+1:=by omega
 have ne5_2_3:¬ w2.heap.size=w4.heap.size:=by omega
 have ne5_2_4:¬ w2.heap.size=w6.heap.size:=by omega
 have ne5_3_0:¬ w4.heap.size=w.heap.size:=by omega
 have ne5_3_1:¬ w4.heap.size=w.heap.size+1:=by omega
 have ne5_3_2:¬ w4.heap.size=w2.heap.size:=by omega
 have ne5_3_4:¬ w4.heap.size=w6.heap.size:=by omega
 have ne5_4_0:¬ w6.heap.size=w.heap.size:=by omega
 have ne5_4_1:¬ w6.heap.size=w.heap.size+1:=by omega
 have ne5_4_2:¬ w6.heap.size=w2.heap.size:=by omega
 have ne5_4_3:¬ w6.heap.size=w4.heap.size:=by omega
 go_upto_region 6 with fail
 go_region_held3 (fun w'=>w'.cell? ⟨w4.heap.size,0,none⟩=some (.string u1)/\w'.cell? ⟨w4.heap.size,1,none⟩=some (vI o1)/\w'.cell? ⟨w4.heap.size,2,none⟩=some (.bool false)/\w'.cell? ⟨w6.heap.size,0,none⟩=some (.string u2)/\w'.cell? ⟨w6.heap.size,1,none⟩=some (vI o2)/\w'.cell? ⟨w6.heap.size,2,none⟩=some (.bool false)) (simp [*,go_sem]) (fail)
 go_wp2
 refine bodyPost_ret (v:=.tuple #[.agg #[.string u1,vI o1,.bool false],.bool r1,.agg #[.string u2,vI o2,.bool false],.bool r2]) (by simp [results,Tryz.results43,go_sem,World.cell?_setCell_same,World.cell?_setCell_other, *]) rfl ⟨rfl,?_⟩
 refine Below.drew ?_
 repeat (first | refine Below.setCell ?_ (by first | exact Nat.le_refl _ | (dsimp only;omega)) _ | refine Below.alloc ?_ (by first | exact Nat.le_refl _ | omega | (simp;omega)) _ | refine Below.drew ?_)
 exact F8.out.2.2.2.2.2
theorem aB7 {b z:Int}{n:Int}{M:Int}{u1 u2:ByteArray}{o1 o2:Int}{r2:Bool}(q1:¬ n<1) (q2:¬ 17<n) (q3:(M == 0)=false) (HC:∀ W,Cb 36 #[vU b,vI z] W (vI 0)) (HM:∀ W,Cb 21 #[vU b,vI z] W (vU M)) (HN:∀ W,Cb 43 #[vU b,vI z,vI n] W (.tuple #[.agg #[.string u1,vI o1,.bool false],.bool true,.agg #[.string u2,vI o2,.bool false],.bool r2])) (w:World) :
 Cb 22 #[vU b,vI z,vI n] w (.tuple #[.bool true,vI 0]):=by
 have F0:Hid (Bl w w):=Below.refl _ _
 go_enter Tryz.func22,Tryz.ntmps22
 go_wp2_with fail
 all_goals first | (exfalso;omega) | skip
 refine (HC _).mono ?_
 rintro o1 w1 ⟨rfl,bb⟩
 have F1:Hid (Bl w w1):=(F0.out).trans (bb.mono (F0.out).size)
 clear F0
 clear bb
 go_wp2_with fail
 all_goals first | (exfalso;omega) | skip
 refine (HM _).mono ?_
 rintro o2 w2 ⟨rfl,bb⟩
 have F2:Hid (Bl w w2):=(F1.out).trans (bb.mono (F1.out).size)
 clear F1
 clear bb
 go_wp2_with fail
 all_goals first | (exfalso;omega) | skip
 refine (HN _).mono ?_
 rintro o3 w3 ⟨rfl,bb⟩
 have F3:Hid (Bl w w3):=(F2.out).trans (bb.mono (F2.out).size)
 clear F2
 clear bb
 have le0:=(F3.out).size
 have F4:Hid (Bk ((w3.alloc (.cells #[.string u1,vI o1,.bool false] 24)).alloc (.cells #[.string u2,vI o2,.bool false] 24)) (w3.heap.size) [.string u1,vI o1,.bool false]/\Bk ((w3.alloc (.cells #[.string u1,vI o1,.bool false] 24)).alloc (.cells #[.string u2,vI o2,.bool false] 24)) (w3.heap.size+1) [.string u2,vI o2,.bool false]/\Bl w ((w3.alloc (.cells #[.string u1,vI o1,.bool false] 24)).alloc (.cells #[.string u2,vI o2,.bool false] 24))):=⟨(Bk.new3 w3 (.string u1) (vI o1) (.bool false) 24).step (bz _ _),((by have q:=Bk.new3 (w3.alloc (.cells #[.string u1,vI o1,.bool false] 24)) (.string u2) (vI o2) (.bool false) 24;simpa using q):Bk ((w3.alloc (.cells #[.string u1,vI o1,.bool false] 24)).alloc (.cells #[.string u2,vI o2,.bool false] 24)) (w3.heap.size+1) [.string u2,vI o2,.bool false]),((F3.out).alloc ((F3.out).size) _).alloc (((F3.out).alloc ((F3.out).size) _).size) _⟩
 clear F3
 go_upto_region 7 with fail
 generalize ((w3.alloc (.cells #[.string u1,vI o1,.bool false] 24)).alloc (.cells #[.string u2,vI o2,.bool false] 24))=w4 at *
 go_wp2
 go_ret2
 exact ⟨rfl,F4.out.2.2⟩
theorem aDk {b z:Int}{n:Int}{M:Int}{u1 u2:ByteArray}{o1 o2:Int}{r2:Bool}(q1:¬ n<1) (q2:¬ 17<n) (q3:(M == 0)=false) (HC:∀ W,Cb 36 #[vU b,vI z] W (vI 0)) (HM:∀ W,Cb 21 #[vU b,vI z] W (vU M)) (HN:∀ W,Cb 43 #[vU b,vI z,vI n] W (.tuple #[.agg #[.string u1,vI o1,.bool false],.bool false,.agg #[.string u2,vI o2,.bool false],.bool r2])) (w:World) :
 Cb 22 #[vU b,vI z,vI n] w (.tuple #[.bool r2,vI 0]):=by
 have F0:Hid (Bl w w):=Below.refl _ _
 go_enter Tryz.func22,Tryz.ntmps22
 go_wp2_with fail
 all_goals first | (exfalso;omega) | skip
 refine (HC _).mono ?_
 rintro o1 w1 ⟨rfl,bb⟩
 have F1:Hid (Bl w w1):=(F0.out).trans (bb.mono (F0.out).size)
 clear F0
 clear bb
 go_wp2_with fail
 all_goals first | (exfalso;omega) | skip
 refine (HM _).mono ?_
 rintro o2 w2 ⟨rfl,bb⟩
 have F2:Hid (Bl w w2):=(F1.out).trans (bb.mono (F1.out).size)
 clear F1
 clear bb
 go_wp2_with fail
 all_goals first | (exfalso;omega) | skip
 refine (HN _).mono ?_
 rintro o3 w3 ⟨rfl,bb⟩
 have F3:Hid (Bl w w3):=(F2.out).trans (bb.mono (F2.out).size)
 clear F2
 clear bb
 have le0:=(F3.out).size
 have F4:Hid (Bk ((w3.alloc (.cells #[.string u1,vI o1,.bool false] 24)).alloc (.cells #[.string u2,vI o2,.bool false] 24)) (w3.heap.size) [.string u1,vI o1,.bool false]/\Bk ((w3.alloc (.cells #[.string u1,vI o1,.bool false] 24)).alloc (.cells #[.string u2,vI o2,.bool false] 24)) (w3.heap.size+1) [.string u2,vI o2,.bool false]/\Bl w ((w3.alloc (.cells #[.string u1,vI o1,.bool false] 24)).alloc (.cells #[.string u2,vI o2,.bool false] 24))):=⟨(Bk.new3 w3 (.string u1) (vI o1) (.bool false) 24).step (bz _ _),((by have q:=Bk.new3 (w3.alloc (.cells #[.string u1,vI o1,.bool false] 24)) (.string u2) (vI o2) (.bool false) 24;simpa using q):Bk ((w3.alloc (.cells #[.string u1,vI o1,.bool false] 24)).alloc (.cells #[.string u2,vI o2,.bool false] 24)) (w3.heap.size+1) [.string u2,vI o2,.bool false]),((F3.out).alloc ((F3.out).size) _).alloc (((F3.out).alloc ((F3.out).size) _).size) _⟩
 clear F3
 go_upto_region 7 with fail
 generalize ((w3.alloc (.cells #[.string u1,vI o1,.bool false] 24)).alloc (.cells #[.string u2,vI o2,.bool false] 24))=w4 at *
 go_wp2
 go_ret2
 exact ⟨rfl,F4.out.2.2⟩
end Go.Proofs.YtblkokjkmbpejaaGreatDoor
