/-
  Holds: LawPNear.
-/
import Derived.Test.YteeobndfnkeldaaGreatDoorShelf
import Derived.Lib.ItoaNum
import Derived.WalkSpells
import Derived.WalkLawsBesides
import Derived.Lib.Mul64
import Derived.Lib.TrailingZeros
import Derived.Deep.OwnRows
import Derived.Laws.CopyOwn
import Derived.BigQuiet
import Derived.Deep.RegionHeld3
import Derived.Deep.LoopGhost
import Derived.Deep.AppendLies
import Derived.Deep.DeepCutAuto
import Derived.Stop.Asserts
import Derived.RowKitTokens
import Derived.Lib.BufferWrite
import Derived.Lib.ConvBytes
import Derived.Test.YteeobndfnkeldaaGreatDoorRows
import Derived.Laws.EntriesVeiled
import Derived.Test.YteeobndfnkeldaaGreatDoorXn43
import Derived.Test.YteeobndfnkeldaaGreatDoorXn47
set_option maxRecDepth 100000
set_option maxHeartbeats 4000000
namespace Go.Proofs.YteeobndfnkeldaaGreatDoor
open Go.RowKit
theorem pnr_no {s:ByteArray}{z:Int}{w:World}(hT:Tab w) (hg:ErrT w)
 (SC:∀ W,Cb 14 #[.string s] W (.tuple #[.agg #[.bool false,vI 0,.string ⟨#[]⟩,vI 0,.bool false,vU 0,vI 0,.bool false],vI 3])) :
 Cb 5 #[.string s,vI z] w (.bool true):=by
 have HT:Hid (Tab w∧ErrT w):=⟨hT,hg⟩
 have WK:=fun W (h:Tab W) (h':ErrT W)=>works18 W h h'
 clear hT hg
 go_enter Tryz.func5,Tryz.ntmps5
 go_wp2_with fail
 refine (SC _).mono ?_
 rintro o w1 ⟨rfl,b1⟩
 have G1:Hid (PtB (w1.alloc (.cells #[.bool false,vI 0,.string ⟨#[]⟩,vI 0,.bool false,vU 0,vI 0,.bool false] 43)) w1.heap.size false 0 ⟨#[]⟩ 0 false 0 0 false):=PtB.new _ _ _ _ _ _ _ _ _ _
 have B1:Hid (Bl w (w1.alloc (.cells #[.bool false,vI 0,.string ⟨#[]⟩,vI 0,.bool false,vU 0,vI 0,.bool false] 43))):=b1.alloc b1.size _
 clear b1 SC
 obtain ⟨_,a0,a1,a2,a3,a4,a5,a6,a7⟩:=G1.out
 go_wp2_with fail
 all_goals first | (exfalso;omega) | skip
 refine (WK _ (HT.out.1.next B1.out) (HT.out.2.below B1.out HT.out.2.pos)).mono ?_
 rintro o wz ⟨rfl,bz⟩
 have Bz:Hid (Bl w wz):=B1.out.trans (bz.mono B1.out.size)
 clear bz
 go_wp2
 go_ret
 exact ⟨rfl,Bz.out⟩
theorem pnr_kind {s:ByteArray}{z:Int}{c:Bool}{d:ByteArray}{q:Int}{u:Bool}{m:Nat}{e:Int}{r:Bool}{kd:Int}(hk:kd ≠ 1) {w:World}(hT:Tab w) (hg:ErrT w)
 (SC:∀ W,Cb 14 #[.string s] W (.tuple #[ptV c kd d q u (m:Int) e r,vI 0])) :
 Cb 5 #[.string s,vI z] w (.bool true):=by
 have HT:Hid (Tab w∧ErrT w):=⟨hT,hg⟩
 have WK:=fun W (h:Tab W) (h':ErrT W)=>works18 W h h'
 clear hT hg
 have kk:(kd == 1)=false:=beq_eq_false_iff_ne.mpr hk
 have kk2:(kd != 1)=true:=by rw [bne,kk];rfl
 unfold ptV at *
 go_enter Tryz.func5,Tryz.ntmps5
 go_wp2_with fail
 refine (SC _).mono ?_
 rintro o w1 ⟨rfl,b1⟩
 have G1:Hid (PtB (w1.alloc (.cells #[.bool c,vI kd,.string d,vI q,.bool u,vU (m:Int),vI e,.bool r] 43)) w1.heap.size c kd d q u (m:Int) e r):=PtB.new _ _ _ _ _ _ _ _ _ _
 have B1:Hid (Bl w (w1.alloc (.cells #[.bool c,vI kd,.string d,vI q,.bool u,vU (m:Int),vI e,.bool r] 43))):=b1.alloc b1.size _
 clear b1 SC
 obtain ⟨_,a0,a1,a2,a3,a4,a5,a6,a7⟩:=G1.out
 go_wp2_with fail
 all_goals first | (exfalso;omega) | skip
 refine (WK _ (HT.out.1.next B1.out) (HT.out.2.below B1.out HT.out.2.pos)).mono ?_
 rintro o wz ⟨rfl,bz⟩
 have Bz:Hid (Bl w wz):=B1.out.trans (bz.mono B1.out.size)
 clear bz
 go_wp2
 go_ret
 exact ⟨rfl,Bz.out⟩
theorem pnr_size {s:ByteArray}{z:Int}{c:Bool}{d:ByteArray}{q:Int}{u:Bool}{m:Nat}{e:Int}{r:Bool}{w:World}(hT:Tab w) (hg:ErrT w)
 (SC:∀ W,Cb 14 #[.string s] W (.tuple #[ptV c 1 d q u (m:Int) e r,vI 0]))
 (SZ:∀ W,Cs 15 #[vI z] W (.bool false)) :
 Cb 5 #[.string s,vI z] w (.bool true):=by
 have HT:Hid (Tab w∧ErrT w):=⟨hT,hg⟩
 have WK:=fun W (h:Tab W) (h':ErrT W)=>works18 W h h'
 clear hT hg
 unfold ptV at *
 go_enter Tryz.func5,Tryz.ntmps5
 go_wp2_with fail
 refine (SC _).mono ?_
 rintro o w1 ⟨rfl,b1⟩
 have G1:Hid (PtB (w1.alloc (.cells #[.bool c,vI 1,.string d,vI q,.bool u,vU (m:Int),vI e,.bool r] 43)) w1.heap.size c 1 d q u (m:Int) e r):=PtB.new _ _ _ _ _ _ _ _ _ _
 have B1:Hid (Bl w (w1.alloc (.cells #[.bool c,vI 1,.string d,vI q,.bool u,vU (m:Int),vI e,.bool r] 43))):=b1.alloc b1.size _
 clear b1 SC
 obtain ⟨_,a0,a1,a2,a3,a4,a5,a6,a7⟩:=G1.out
 go_wp2_with fail
 refine (SZ _).mono ?_
 rintro o ws ⟨rfl,es⟩
 subst es
 go_wp2_with fail
 all_goals first | (exfalso;omega) | skip
 refine (WK _ (HT.out.1.next B1.out) (HT.out.2.below B1.out HT.out.2.pos)).mono ?_
 rintro o wz ⟨rfl,bz⟩
 have Bz:Hid (Bl w wz):=B1.out.trans (bz.mono B1.out.size)
 clear bz
 go_wp2
 go_ret
 exact ⟨rfl,Bz.out⟩
theorem pnr_zero_f {s:ByteArray}{z:Int}{d:ByteArray}{q:Int}{u:Bool}{m:Nat}{e:Int}{r:Bool}{n:Nat}(n0:0<n) (hn:n<9223372036854775808) {c1:Int}(h1:c1 = -1 ∨ (c1=0∧(0:Nat) % 2=0)) {w:World}(hT:Tab w) (hg:ErrT w)
 (SC:∀ W,Cb 14 #[.string s] W (.tuple #[ptV false 1 d q u (m:Int) e r,vI 0]))
 (SZ:∀ W,Cs 15 #[vI z] W (.bool true))
 (P:∀ W,Tab W → Calls Tryz.prog 13 #[.string s,vI z,.pointer none] W fun o w'=>∃ v,o=.returned (.tuple #[vU 0,v])∧ErV w' 0 cPrs s v∧Bl W w')
 (MG:∀ W,Cs 18 #[vU 0,vI z] W (vU 0))
 (IN:∀ W,Cs 19 #[vI z] W (vU (n:Int)))
 (P1:∀ W,Cb 21 #[dcV d q u,vU 0,vI z] W (.tuple #[vI c1,vI 0])) :
 Cb 5 #[.string s,vI z] w (.bool true):=by
 have HT:Hid (Tab w∧ErrT w):=⟨hT,hg⟩
 have WK:=fun W (h:Tab W) (h':ErrT W)=>works18 W h h'
 clear hT hg
 have i1:(0:Int)<(n:Int):=by omega
 have i2:((0:Int) == (n:Int))=false:=by rw [beq_eq_false_iff_ne];omega
 have i5:¬ (n:Int)<0:=by omega
 clear n0
 unfold ptV dcV at *
 go_enter Tryz.func5,Tryz.ntmps5
 go_wp2_with fail
 refine (SC _).mono ?_
 rintro o w1 ⟨rfl,b1⟩
 have G1:Hid (PtB (w1.alloc (.cells #[.bool false,vI 1,.string d,vI q,.bool u,vU (m:Int),vI e,.bool r] 43)) w1.heap.size false 1 d q u (m:Int) e r):=PtB.new _ _ _ _ _ _ _ _ _ _
 have B1:Hid (Bl w (w1.alloc (.cells #[.bool false,vI 1,.string d,vI q,.bool u,vU (m:Int),vI e,.bool r] 43))):=b1.alloc b1.size _
 clear b1 SC
 obtain ⟨_,a0,a1,a2,a3,a4,a5,a6,a7⟩:=G1.out
 go_wp2_with fail
 refine (SZ _).mono ?_
 rintro o ws ⟨rfl,es⟩
 subst es
 go_wp2_with fail
 refine (P _ (HT.out.1.next B1.out)).mono ?_
 rintro o w2 ⟨v,rfl,e2,b2⟩
 have B2:Hid (Bl w w2):=B1.out.trans (b2.mono B1.out.size)
 have G2:Hid (PtB w2 w1.heap.size false 1 d q u (m:Int) e r):=G1.out.step b2
 have NM:=num_erv e2 (HT.out.2.below B2.out HT.out.2.pos)
 clear b2 e2 G1 P a0 a1 a2 a3 a4 a5 a6 a7
 obtain ⟨_,a0,a1,a2,a3,a4,a5,a6,a7⟩:=G2.out
 go_wp2_with fail
 refine (MG _).mono ?_
 rintro o w2 ⟨rfl,rfl⟩
 go_wp2_with fail
 refine (IN _).mono ?_
 rintro o w2 ⟨rfl,rfl⟩
 go_wp2_with fail
 all_goals first | (exfalso;omega) | skip
 refine NM.mono ?_
 rintro o w3 ⟨rfl,b3⟩
 have B3:Hid (Bl w w3):=B2.out.trans (b3.mono B2.out.size)
 have G3:Hid (PtB w3 w1.heap.size false 1 d q u (m:Int) e r):=G2.out.step b3
 clear b3 NM G2 a0 a1 a2 a3 a4 a5 a6 a7
 obtain ⟨_,a0,a1,a2,a3,a4,a5,a6,a7⟩:=G3.out
 go_wp2_with fail
 all_goals first | (exfalso;omega) | skip
 refine (P1 _).mono ?_
 rintro o w4 ⟨rfl,b4⟩
 have B4:Hid (Bl w w4):=B3.out.trans (b4.mono B3.out.size)
 have G4:Hid (PtB w4 w1.heap.size false 1 d q u (m:Int) e r):=G3.out.step b4
 clear b4 G3 a0 a1 a2 a3 a4 a5 a6 a7
 obtain ⟨_,a0,a1,a2,a3,a4,a5,a6,a7⟩:=G4.out
 rcases h1 with rfl | ⟨rfl,hp⟩
 · go_wp2_with fail
   all_goals first | (exfalso;omega) | skip
   refine (WK _ (HT.out.1.next B4.out) (HT.out.2.below B4.out HT.out.2.pos)).mono ?_
   rintro o wz ⟨rfl,bz⟩
   have Bz:Hid (Bl w wz):=B4.out.trans (bz.mono B4.out.size)
   clear bz
   go_wp2
   go_ret
   exact ⟨rfl,Bz.out⟩
 · go_wp2_with fail
   all_goals first | (exfalso;omega) | skip
   refine (WK _ (HT.out.1.next B4.out) (HT.out.2.below B4.out HT.out.2.pos)).mono ?_
   rintro o wz ⟨rfl,bz⟩
   have Bz:Hid (Bl w wz):=B4.out.trans (bz.mono B4.out.size)
   clear bz
   go_wp2
   go_ret
   exact ⟨rfl,Bz.out⟩
theorem pnr_zero_t {s:ByteArray}{z:Int}{d:ByteArray}{q:Int}{u:Bool}{m:Nat}{e:Int}{r:Bool}{A n:Nat}(n0:0<n) (hn:n<9223372036854775808) {c1:Int}(h1:c1 = -1 ∨ (c1=0∧(0:Nat) % 2=0)) (qa:(A:Int) ≠ (0:Int)) {w:World}(hT:Tab w) (hg:ErrT w)
 (SC:∀ W,Cb 14 #[.string s] W (.tuple #[ptV true 1 d q u (m:Int) e r,vI 0]))
 (SZ:∀ W,Cs 15 #[vI z] W (.bool true))
 (P:∀ W,Tab W → Calls Tryz.prog 13 #[.string s,vI z,.pointer none] W fun o w'=>∃ v,o=.returned (.tuple #[vU (A:Int),v])∧ErV w' 0 cPrs s v∧Bl W w')
 (MG:∀ W,Cs 18 #[vU (A:Int),vI z] W (vU 0))
 (IN:∀ W,Cs 19 #[vI z] W (vU (n:Int)))
 (P1:∀ W,Cb 21 #[dcV d q u,vU 0,vI z] W (.tuple #[vI c1,vI 0])) :
 Cb 5 #[.string s,vI z] w (.bool true):=by
 have HT:Hid (Tab w∧ErrT w):=⟨hT,hg⟩
 have WK:=fun W (h:Tab W) (h':ErrT W)=>works18 W h h'
 clear hT hg
 have i1:(0:Int)<(n:Int):=by omega
 have qb:((A:Int) == (0:Int))=false:=beq_eq_false_iff_ne.mpr qa
 have qn:((A:Int) != (0:Int))=true:=by rw [bne,qb];rfl
 have qc:¬ A=(0:Nat):=by omega
 have i2:((0:Int) == (n:Int))=false:=by rw [beq_eq_false_iff_ne];omega
 have i5:¬ (n:Int)<0:=by omega
 clear n0
 unfold ptV dcV at *
 go_enter Tryz.func5,Tryz.ntmps5
 go_wp2_with fail
 refine (SC _).mono ?_
 rintro o w1 ⟨rfl,b1⟩
 have G1:Hid (PtB (w1.alloc (.cells #[.bool true,vI 1,.string d,vI q,.bool u,vU (m:Int),vI e,.bool r] 43)) w1.heap.size true 1 d q u (m:Int) e r):=PtB.new _ _ _ _ _ _ _ _ _ _
 have B1:Hid (Bl w (w1.alloc (.cells #[.bool true,vI 1,.string d,vI q,.bool u,vU (m:Int),vI e,.bool r] 43))):=b1.alloc b1.size _
 clear b1 SC
 obtain ⟨_,a0,a1,a2,a3,a4,a5,a6,a7⟩:=G1.out
 go_wp2_with fail
 refine (SZ _).mono ?_
 rintro o ws ⟨rfl,es⟩
 subst es
 go_wp2_with fail
 refine (P _ (HT.out.1.next B1.out)).mono ?_
 rintro o w2 ⟨v,rfl,e2,b2⟩
 have B2:Hid (Bl w w2):=B1.out.trans (b2.mono B1.out.size)
 have G2:Hid (PtB w2 w1.heap.size true 1 d q u (m:Int) e r):=G1.out.step b2
 have NM:=num_erv e2 (HT.out.2.below B2.out HT.out.2.pos)
 clear b2 e2 G1 P a0 a1 a2 a3 a4 a5 a6 a7
 obtain ⟨_,a0,a1,a2,a3,a4,a5,a6,a7⟩:=G2.out
 go_wp2_with fail
 refine (MG _).mono ?_
 rintro o w2 ⟨rfl,rfl⟩
 go_wp2_with fail
 refine (IN _).mono ?_
 rintro o w2 ⟨rfl,rfl⟩
 go_wp2_with fail
 all_goals first | (exfalso;omega) | skip
 refine NM.mono ?_
 rintro o w3 ⟨rfl,b3⟩
 have B3:Hid (Bl w w3):=B2.out.trans (b3.mono B2.out.size)
 have G3:Hid (PtB w3 w1.heap.size true 1 d q u (m:Int) e r):=G2.out.step b3
 clear b3 NM G2 a0 a1 a2 a3 a4 a5 a6 a7
 obtain ⟨_,a0,a1,a2,a3,a4,a5,a6,a7⟩:=G3.out
 go_wp2_with fail
 all_goals first | (exfalso;omega) | skip
 refine (P1 _).mono ?_
 rintro o w4 ⟨rfl,b4⟩
 have B4:Hid (Bl w w4):=B3.out.trans (b4.mono B3.out.size)
 have G4:Hid (PtB w4 w1.heap.size true 1 d q u (m:Int) e r):=G3.out.step b4
 clear b4 G3 a0 a1 a2 a3 a4 a5 a6 a7
 obtain ⟨_,a0,a1,a2,a3,a4,a5,a6,a7⟩:=G4.out
 rcases h1 with rfl | ⟨rfl,hp⟩
 · go_wp2_with fail
   all_goals first | (exfalso;omega) | skip
   refine (WK _ (HT.out.1.next B4.out) (HT.out.2.below B4.out HT.out.2.pos)).mono ?_
   rintro o wz ⟨rfl,bz⟩
   have Bz:Hid (Bl w wz):=B4.out.trans (bz.mono B4.out.size)
   clear bz
   go_wp2
   go_ret
   exact ⟨rfl,Bz.out⟩
 · go_wp2_with fail
   all_goals first | (exfalso;omega) | skip
   refine (WK _ (HT.out.1.next B4.out) (HT.out.2.below B4.out HT.out.2.pos)).mono ?_
   rintro o wz ⟨rfl,bz⟩
   have Bz:Hid (Bl w wz):=B4.out.trans (bz.mono B4.out.size)
   clear bz
   go_wp2
   go_ret
   exact ⟨rfl,Bz.out⟩
theorem pnr_mid_f {s:ByteArray}{z:Int}{d:ByteArray}{q:Int}{u:Bool}{m:Nat}{e:Int}{r:Bool}{n:Nat}(n0:0<n) (hn:n<9223372036854775808) {x:Nat}(x0:0<x) (xn:x<n) {c1:Int}(h1:c1 = -1 ∨ (c1=0∧x % 2=0)) {c2:Int}(h2:c2=1 ∨ (c2=0∧x % 2=0)) {w:World}(hT:Tab w) (hg:ErrT w)
 (SC:∀ W,Cb 14 #[.string s] W (.tuple #[ptV false 1 d q u (m:Int) e r,vI 0]))
 (SZ:∀ W,Cs 15 #[vI z] W (.bool true))
 (P:∀ W,Tab W → Calls Tryz.prog 13 #[.string s,vI z,.pointer none] W fun o w'=>∃ v,o=.returned (.tuple #[vU (x:Int),v])∧ErV w' 0 cPrs s v∧Bl W w')
 (MG:∀ W,Cs 18 #[vU (x:Int),vI z] W (vU (x:Int)))
 (IN:∀ W,Cs 19 #[vI z] W (vU (n:Int)))
 (P1:∀ W,Cb 21 #[dcV d q u,vU (x:Int),vI z] W (.tuple #[vI c1,vI 0]))
 (P2:∀ W,Cb 21 #[dcV d q u,vU ((x:Int) - 1),vI z] W (.tuple #[vI c2,vI 0])) :
 Cb 5 #[.string s,vI z] w (.bool true):=by
 have HT:Hid (Tab w∧ErrT w):=⟨hT,hg⟩
 have WK:=fun W (h:Tab W) (h':ErrT W)=>works18 W h h'
 clear hT hg
 have i1:(0:Int)<(n:Int):=by omega
 have i2:((x:Int) == (n:Int))=false:=by rw [beq_eq_false_iff_ne];omega
 have i3:(x:Int)<(n:Int):=by omega
 have i4:(0:Int)<(x:Int):=by omega
 have i5:¬ (n:Int)<(x:Int):=by omega
 clear n0
 unfold ptV dcV at *
 go_enter Tryz.func5,Tryz.ntmps5
 go_wp2_with fail
 refine (SC _).mono ?_
 rintro o w1 ⟨rfl,b1⟩
 have G1:Hid (PtB (w1.alloc (.cells #[.bool false,vI 1,.string d,vI q,.bool u,vU (m:Int),vI e,.bool r] 43)) w1.heap.size false 1 d q u (m:Int) e r):=PtB.new _ _ _ _ _ _ _ _ _ _
 have B1:Hid (Bl w (w1.alloc (.cells #[.bool false,vI 1,.string d,vI q,.bool u,vU (m:Int),vI e,.bool r] 43))):=b1.alloc b1.size _
 clear b1 SC
 obtain ⟨_,a0,a1,a2,a3,a4,a5,a6,a7⟩:=G1.out
 go_wp2_with fail
 refine (SZ _).mono ?_
 rintro o ws ⟨rfl,es⟩
 subst es
 go_wp2_with fail
 refine (P _ (HT.out.1.next B1.out)).mono ?_
 rintro o w2 ⟨v,rfl,e2,b2⟩
 have B2:Hid (Bl w w2):=B1.out.trans (b2.mono B1.out.size)
 have G2:Hid (PtB w2 w1.heap.size false 1 d q u (m:Int) e r):=G1.out.step b2
 have NM:=num_erv e2 (HT.out.2.below B2.out HT.out.2.pos)
 clear b2 e2 G1 P a0 a1 a2 a3 a4 a5 a6 a7
 obtain ⟨_,a0,a1,a2,a3,a4,a5,a6,a7⟩:=G2.out
 go_wp2_with fail
 refine (MG _).mono ?_
 rintro o w2 ⟨rfl,rfl⟩
 go_wp2_with fail
 refine (IN _).mono ?_
 rintro o w2 ⟨rfl,rfl⟩
 go_wp2_with fail
 all_goals first | (exfalso;omega) | skip
 refine NM.mono ?_
 rintro o w3 ⟨rfl,b3⟩
 have B3:Hid (Bl w w3):=B2.out.trans (b3.mono B2.out.size)
 have G3:Hid (PtB w3 w1.heap.size false 1 d q u (m:Int) e r):=G2.out.step b3
 clear b3 NM G2 a0 a1 a2 a3 a4 a5 a6 a7
 obtain ⟨_,a0,a1,a2,a3,a4,a5,a6,a7⟩:=G3.out
 go_wp2_with fail
 all_goals first | (exfalso;omega) | skip
 refine (P1 _).mono ?_
 rintro o w4 ⟨rfl,b4⟩
 have B4:Hid (Bl w w4):=B3.out.trans (b4.mono B3.out.size)
 have G4:Hid (PtB w4 w1.heap.size false 1 d q u (m:Int) e r):=G3.out.step b4
 clear b4 G3 a0 a1 a2 a3 a4 a5 a6 a7
 obtain ⟨_,a0,a1,a2,a3,a4,a5,a6,a7⟩:=G4.out
 rcases h1 with rfl | ⟨rfl,hp⟩
 · go_wp2_with fail
   all_goals first | (exfalso;omega) | skip
   refine (P2 _).mono ?_
   rintro o w5 ⟨rfl,b5⟩
   have B5:Hid (Bl w w5):=B4.out.trans (b5.mono B4.out.size)
   have G5:Hid (PtB w5 w1.heap.size false 1 d q u (m:Int) e r):=G4.out.step b5
   clear b5 G4 a0 a1 a2 a3 a4 a5 a6 a7
   obtain ⟨_,a0,a1,a2,a3,a4,a5,a6,a7⟩:=G5.out
   rcases h2 with rfl | ⟨rfl,hp2⟩
   · go_wp2_with fail
     all_goals first | (exfalso;omega) | skip
     refine (WK _ (HT.out.1.next B5.out) (HT.out.2.below B5.out HT.out.2.pos)).mono ?_
     rintro o wz ⟨rfl,bz⟩
     have Bz:Hid (Bl w wz):=B5.out.trans (bz.mono B5.out.size)
     clear bz
     go_wp2
     go_ret
     exact ⟨rfl,Bz.out⟩
   · have pe:((x:Int).tmod 2 == 1)=false:=by rw [Int.tmod_eq_emod_of_nonneg (by omega),beq_eq_false_iff_ne];omega
     go_wp2_with fail
     all_goals first | (exfalso;omega) | skip
     refine (WK _ (HT.out.1.next B5.out) (HT.out.2.below B5.out HT.out.2.pos)).mono ?_
     rintro o wz ⟨rfl,bz⟩
     have Bz:Hid (Bl w wz):=B5.out.trans (bz.mono B5.out.size)
     clear bz
     go_wp2
     go_ret
     exact ⟨rfl,Bz.out⟩
 · have pe:((x:Int).tmod 2 == 1)=false:=by rw [Int.tmod_eq_emod_of_nonneg (by omega),beq_eq_false_iff_ne];omega
   go_wp2_with fail
   all_goals first | (exfalso;omega) | skip
   refine (P2 _).mono ?_
   rintro o w5 ⟨rfl,b5⟩
   have B5:Hid (Bl w w5):=B4.out.trans (b5.mono B4.out.size)
   have G5:Hid (PtB w5 w1.heap.size false 1 d q u (m:Int) e r):=G4.out.step b5
   clear b5 G4 a0 a1 a2 a3 a4 a5 a6 a7
   obtain ⟨_,a0,a1,a2,a3,a4,a5,a6,a7⟩:=G5.out
   rcases h2 with rfl | ⟨rfl,hp2⟩
   · go_wp2_with fail
     all_goals first | (exfalso;omega) | skip
     refine (WK _ (HT.out.1.next B5.out) (HT.out.2.below B5.out HT.out.2.pos)).mono ?_
     rintro o wz ⟨rfl,bz⟩
     have Bz:Hid (Bl w wz):=B5.out.trans (bz.mono B5.out.size)
     clear bz
     go_wp2
     go_ret
     exact ⟨rfl,Bz.out⟩
   · have _:True:=trivial
     go_wp2_with fail
     all_goals first | (exfalso;omega) | skip
     refine (WK _ (HT.out.1.next B5.out) (HT.out.2.below B5.out HT.out.2.pos)).mono ?_
     rintro o wz ⟨rfl,bz⟩
     have Bz:Hid (Bl w wz):=B5.out.trans (bz.mono B5.out.size)
     clear bz
     go_wp2
     go_ret
     exact ⟨rfl,Bz.out⟩
theorem pnr_mid_t {s:ByteArray}{z:Int}{d:ByteArray}{q:Int}{u:Bool}{m:Nat}{e:Int}{r:Bool}{A n:Nat}(n0:0<n) (hn:n<9223372036854775808) {x:Nat}(x0:0<x) (xn:x<n) {c1:Int}(h1:c1 = -1 ∨ (c1=0∧x % 2=0)) {c2:Int}(h2:c2=1 ∨ (c2=0∧x % 2=0)) (qa:(A:Int) ≠ (x:Int)) {w:World}(hT:Tab w) (hg:ErrT w)
 (SC:∀ W,Cb 14 #[.string s] W (.tuple #[ptV true 1 d q u (m:Int) e r,vI 0]))
 (SZ:∀ W,Cs 15 #[vI z] W (.bool true))
 (P:∀ W,Tab W → Calls Tryz.prog 13 #[.string s,vI z,.pointer none] W fun o w'=>∃ v,o=.returned (.tuple #[vU (A:Int),v])∧ErV w' 0 cPrs s v∧Bl W w')
 (MG:∀ W,Cs 18 #[vU (A:Int),vI z] W (vU (x:Int)))
 (IN:∀ W,Cs 19 #[vI z] W (vU (n:Int)))
 (P1:∀ W,Cb 21 #[dcV d q u,vU (x:Int),vI z] W (.tuple #[vI c1,vI 0]))
 (P2:∀ W,Cb 21 #[dcV d q u,vU ((x:Int) - 1),vI z] W (.tuple #[vI c2,vI 0])) :
 Cb 5 #[.string s,vI z] w (.bool true):=by
 have HT:Hid (Tab w∧ErrT w):=⟨hT,hg⟩
 have WK:=fun W (h:Tab W) (h':ErrT W)=>works18 W h h'
 clear hT hg
 have i1:(0:Int)<(n:Int):=by omega
 have qb:((A:Int) == (x:Int))=false:=beq_eq_false_iff_ne.mpr qa
 have qn:((A:Int) != (x:Int))=true:=by rw [bne,qb];rfl
 have qc:¬ A=x:=by omega
 have i2:((x:Int) == (n:Int))=false:=by rw [beq_eq_false_iff_ne];omega
 have i3:(x:Int)<(n:Int):=by omega
 have i4:(0:Int)<(x:Int):=by omega
 have i5:¬ (n:Int)<(x:Int):=by omega
 clear n0
 unfold ptV dcV at *
 go_enter Tryz.func5,Tryz.ntmps5
 go_wp2_with fail
 refine (SC _).mono ?_
 rintro o w1 ⟨rfl,b1⟩
 have G1:Hid (PtB (w1.alloc (.cells #[.bool true,vI 1,.string d,vI q,.bool u,vU (m:Int),vI e,.bool r] 43)) w1.heap.size true 1 d q u (m:Int) e r):=PtB.new _ _ _ _ _ _ _ _ _ _
 have B1:Hid (Bl w (w1.alloc (.cells #[.bool true,vI 1,.string d,vI q,.bool u,vU (m:Int),vI e,.bool r] 43))):=b1.alloc b1.size _
 clear b1 SC
 obtain ⟨_,a0,a1,a2,a3,a4,a5,a6,a7⟩:=G1.out
 go_wp2_with fail
 refine (SZ _).mono ?_
 rintro o ws ⟨rfl,es⟩
 subst es
 go_wp2_with fail
 refine (P _ (HT.out.1.next B1.out)).mono ?_
 rintro o w2 ⟨v,rfl,e2,b2⟩
 have B2:Hid (Bl w w2):=B1.out.trans (b2.mono B1.out.size)
 have G2:Hid (PtB w2 w1.heap.size true 1 d q u (m:Int) e r):=G1.out.step b2
 have NM:=num_erv e2 (HT.out.2.below B2.out HT.out.2.pos)
 clear b2 e2 G1 P a0 a1 a2 a3 a4 a5 a6 a7
 obtain ⟨_,a0,a1,a2,a3,a4,a5,a6,a7⟩:=G2.out
 go_wp2_with fail
 refine (MG _).mono ?_
 rintro o w2 ⟨rfl,rfl⟩
 go_wp2_with fail
 refine (IN _).mono ?_
 rintro o w2 ⟨rfl,rfl⟩
 go_wp2_with fail
 all_goals first | (exfalso;omega) | skip
 refine NM.mono ?_
 rintro o w3 ⟨rfl,b3⟩
 have B3:Hid (Bl w w3):=B2.out.trans (b3.mono B2.out.size)
 have G3:Hid (PtB w3 w1.heap.size true 1 d q u (m:Int) e r):=G2.out.step b3
 clear b3 NM G2 a0 a1 a2 a3 a4 a5 a6 a7
 obtain ⟨_,a0,a1,a2,a3,a4,a5,a6,a7⟩:=G3.out
 go_wp2_with fail
 all_goals first | (exfalso;omega) | skip
 refine (P1 _).mono ?_
 rintro o w4 ⟨rfl,b4⟩
 have B4:Hid (Bl w w4):=B3.out.trans (b4.mono B3.out.size)
 have G4:Hid (PtB w4 w1.heap.size true 1 d q u (m:Int) e r):=G3.out.step b4
 clear b4 G3 a0 a1 a2 a3 a4 a5 a6 a7
 obtain ⟨_,a0,a1,a2,a3,a4,a5,a6,a7⟩:=G4.out
 rcases h1 with rfl | ⟨rfl,hp⟩
 · go_wp2_with fail
   all_goals first | (exfalso;omega) | skip
   refine (P2 _).mono ?_
   rintro o w5 ⟨rfl,b5⟩
   have B5:Hid (Bl w w5):=B4.out.trans (b5.mono B4.out.size)
   have G5:Hid (PtB w5 w1.heap.size true 1 d q u (m:Int) e r):=G4.out.step b5
   clear b5 G4 a0 a1 a2 a3 a4 a5 a6 a7
   obtain ⟨_,a0,a1,a2,a3,a4,a5,a6,a7⟩:=G5.out
   rcases h2 with rfl | ⟨rfl,hp2⟩
   · go_wp2_with fail
     all_goals first | (exfalso;omega) | skip
     refine (WK _ (HT.out.1.next B5.out) (HT.out.2.below B5.out HT.out.2.pos)).mono ?_
     rintro o wz ⟨rfl,bz⟩
     have Bz:Hid (Bl w wz):=B5.out.trans (bz.mono B5.out.size)
     clear bz
     go_wp2
     go_ret
     exact ⟨rfl,Bz.out⟩
   · have pe:((x:Int).tmod 2 == 1)=false:=by rw [Int.tmod_eq_emod_of_nonneg (by omega),beq_eq_false_iff_ne];omega
     go_wp2_with fail
     all_goals first | (exfalso;omega) | skip
     refine (WK _ (HT.out.1.next B5.out) (HT.out.2.below B5.out HT.out.2.pos)).mono ?_
     rintro o wz ⟨rfl,bz⟩
     have Bz:Hid (Bl w wz):=B5.out.trans (bz.mono B5.out.size)
     clear bz
     go_wp2
     go_ret
     exact ⟨rfl,Bz.out⟩
 · have pe:((x:Int).tmod 2 == 1)=false:=by rw [Int.tmod_eq_emod_of_nonneg (by omega),beq_eq_false_iff_ne];omega
   go_wp2_with fail
   all_goals first | (exfalso;omega) | skip
   refine (P2 _).mono ?_
   rintro o w5 ⟨rfl,b5⟩
   have B5:Hid (Bl w w5):=B4.out.trans (b5.mono B4.out.size)
   have G5:Hid (PtB w5 w1.heap.size true 1 d q u (m:Int) e r):=G4.out.step b5
   clear b5 G4 a0 a1 a2 a3 a4 a5 a6 a7
   obtain ⟨_,a0,a1,a2,a3,a4,a5,a6,a7⟩:=G5.out
   rcases h2 with rfl | ⟨rfl,hp2⟩
   · go_wp2_with fail
     all_goals first | (exfalso;omega) | skip
     refine (WK _ (HT.out.1.next B5.out) (HT.out.2.below B5.out HT.out.2.pos)).mono ?_
     rintro o wz ⟨rfl,bz⟩
     have Bz:Hid (Bl w wz):=B5.out.trans (bz.mono B5.out.size)
     clear bz
     go_wp2
     go_ret
     exact ⟨rfl,Bz.out⟩
   · have _:True:=trivial
     go_wp2_with fail
     all_goals first | (exfalso;omega) | skip
     refine (WK _ (HT.out.1.next B5.out) (HT.out.2.below B5.out HT.out.2.pos)).mono ?_
     rintro o wz ⟨rfl,bz⟩
     have Bz:Hid (Bl w wz):=B5.out.trans (bz.mono B5.out.size)
     clear bz
     go_wp2
     go_ret
     exact ⟨rfl,Bz.out⟩
theorem pnr_inf_f {s:ByteArray}{z:Int}{d:ByteArray}{q:Int}{u:Bool}{m:Nat}{e:Int}{r:Bool}{n:Nat}(n0:0<n) (hn:n<9223372036854775808) {c2:Int}(h2:c2=1 ∨ (c2=0∧n % 2=0)) {w:World}(hT:Tab w) (hg:ErrT w)
 (SC:∀ W,Cb 14 #[.string s] W (.tuple #[ptV false 1 d q u (m:Int) e r,vI 0]))
 (SZ:∀ W,Cs 15 #[vI z] W (.bool true))
 (P:∀ W,Tab W → Calls Tryz.prog 13 #[.string s,vI z,.pointer none] W fun o w'=>∃ v,o=.returned (.tuple #[vU (n:Int),v])∧ErV w' 4 cPrs s v∧Bl W w')
 (MG:∀ W,Cs 18 #[vU (n:Int),vI z] W (vU (n:Int)))
 (IN:∀ W,Cs 19 #[vI z] W (vU (n:Int)))
 (P2:∀ W,Cb 21 #[dcV d q u,vU ((n:Int) - 1),vI z] W (.tuple #[vI c2,vI 0])) :
 Cb 5 #[.string s,vI z] w (.bool true):=by
 have HT:Hid (Tab w∧ErrT w):=⟨hT,hg⟩
 have WK:=fun W (h:Tab W) (h':ErrT W)=>works18 W h h'
 clear hT hg
 have i1:(0:Int)<(n:Int):=by omega
 have i2:((n:Int) == (n:Int))=true:=beq_self_eq_true _
 clear n0
 unfold ptV dcV at *
 go_enter Tryz.func5,Tryz.ntmps5
 go_wp2_with fail
 refine (SC _).mono ?_
 rintro o w1 ⟨rfl,b1⟩
 have G1:Hid (PtB (w1.alloc (.cells #[.bool false,vI 1,.string d,vI q,.bool u,vU (m:Int),vI e,.bool r] 43)) w1.heap.size false 1 d q u (m:Int) e r):=PtB.new _ _ _ _ _ _ _ _ _ _
 have B1:Hid (Bl w (w1.alloc (.cells #[.bool false,vI 1,.string d,vI q,.bool u,vU (m:Int),vI e,.bool r] 43))):=b1.alloc b1.size _
 clear b1 SC
 obtain ⟨_,a0,a1,a2,a3,a4,a5,a6,a7⟩:=G1.out
 go_wp2_with fail
 refine (SZ _).mono ?_
 rintro o ws ⟨rfl,es⟩
 subst es
 go_wp2_with fail
 refine (P _ (HT.out.1.next B1.out)).mono ?_
 rintro o w2 ⟨v,rfl,e2,b2⟩
 have B2:Hid (Bl w w2):=B1.out.trans (b2.mono B1.out.size)
 have G2:Hid (PtB w2 w1.heap.size false 1 d q u (m:Int) e r):=G1.out.step b2
 have NM:=num_erv e2 (HT.out.2.below B2.out HT.out.2.pos)
 clear b2 e2 G1 P a0 a1 a2 a3 a4 a5 a6 a7
 obtain ⟨_,a0,a1,a2,a3,a4,a5,a6,a7⟩:=G2.out
 go_wp2_with fail
 refine (MG _).mono ?_
 rintro o w2 ⟨rfl,rfl⟩
 go_wp2_with fail
 refine (IN _).mono ?_
 rintro o w2 ⟨rfl,rfl⟩
 go_wp2_with fail
 all_goals first | (exfalso;omega) | skip
 refine NM.mono ?_
 rintro o w3 ⟨rfl,b3⟩
 have B3:Hid (Bl w w3):=B2.out.trans (b3.mono B2.out.size)
 have G3:Hid (PtB w3 w1.heap.size false 1 d q u (m:Int) e r):=G2.out.step b3
 clear b3 NM G2 a0 a1 a2 a3 a4 a5 a6 a7
 obtain ⟨_,a0,a1,a2,a3,a4,a5,a6,a7⟩:=G3.out
 go_wp2_with fail
 all_goals first | (exfalso;omega) | skip
 refine (P2 _).mono ?_
 rintro o w4 ⟨rfl,b4⟩
 have B4:Hid (Bl w w4):=B3.out.trans (b4.mono B3.out.size)
 have G4:Hid (PtB w4 w1.heap.size false 1 d q u (m:Int) e r):=G3.out.step b4
 clear b4 G3 a0 a1 a2 a3 a4 a5 a6 a7
 obtain ⟨_,a0,a1,a2,a3,a4,a5,a6,a7⟩:=G4.out
 rcases h2 with rfl | ⟨rfl,hp⟩
 · go_wp2_with fail
   all_goals first | (exfalso;omega) | skip
   refine (WK _ (HT.out.1.next B4.out) (HT.out.2.below B4.out HT.out.2.pos)).mono ?_
   rintro o wz ⟨rfl,bz⟩
   have Bz:Hid (Bl w wz):=B4.out.trans (bz.mono B4.out.size)
   clear bz
   go_wp2
   go_ret
   exact ⟨rfl,Bz.out⟩
 · have pe:((n:Int).tmod 2 == 1)=false:=by rw [Int.tmod_eq_emod_of_nonneg (by omega),beq_eq_false_iff_ne];omega
   go_wp2_with fail
   all_goals first | (exfalso;omega) | skip
   refine (WK _ (HT.out.1.next B4.out) (HT.out.2.below B4.out HT.out.2.pos)).mono ?_
   rintro o wz ⟨rfl,bz⟩
   have Bz:Hid (Bl w wz):=B4.out.trans (bz.mono B4.out.size)
   clear bz
   go_wp2
   go_ret
   exact ⟨rfl,Bz.out⟩
theorem pnr_inf_t {s:ByteArray}{z:Int}{d:ByteArray}{q:Int}{u:Bool}{m:Nat}{e:Int}{r:Bool}{A n:Nat}(n0:0<n) (hn:n<9223372036854775808) {c2:Int}(h2:c2=1 ∨ (c2=0∧n % 2=0)) (qa:(A:Int) ≠ (n:Int)) {w:World}(hT:Tab w) (hg:ErrT w)
 (SC:∀ W,Cb 14 #[.string s] W (.tuple #[ptV true 1 d q u (m:Int) e r,vI 0]))
 (SZ:∀ W,Cs 15 #[vI z] W (.bool true))
 (P:∀ W,Tab W → Calls Tryz.prog 13 #[.string s,vI z,.pointer none] W fun o w'=>∃ v,o=.returned (.tuple #[vU (A:Int),v])∧ErV w' 4 cPrs s v∧Bl W w')
 (MG:∀ W,Cs 18 #[vU (A:Int),vI z] W (vU (n:Int)))
 (IN:∀ W,Cs 19 #[vI z] W (vU (n:Int)))
 (P2:∀ W,Cb 21 #[dcV d q u,vU ((n:Int) - 1),vI z] W (.tuple #[vI c2,vI 0])) :
 Cb 5 #[.string s,vI z] w (.bool true):=by
 have HT:Hid (Tab w∧ErrT w):=⟨hT,hg⟩
 have WK:=fun W (h:Tab W) (h':ErrT W)=>works18 W h h'
 clear hT hg
 have i1:(0:Int)<(n:Int):=by omega
 have qb:((A:Int) == (n:Int))=false:=beq_eq_false_iff_ne.mpr qa
 have qn:((A:Int) != (n:Int))=true:=by rw [bne,qb];rfl
 have qc:¬ A=n:=by omega
 have i2:((n:Int) == (n:Int))=true:=beq_self_eq_true _
 clear n0
 unfold ptV dcV at *
 go_enter Tryz.func5,Tryz.ntmps5
 go_wp2_with fail
 refine (SC _).mono ?_
 rintro o w1 ⟨rfl,b1⟩
 have G1:Hid (PtB (w1.alloc (.cells #[.bool true,vI 1,.string d,vI q,.bool u,vU (m:Int),vI e,.bool r] 43)) w1.heap.size true 1 d q u (m:Int) e r):=PtB.new _ _ _ _ _ _ _ _ _ _
 have B1:Hid (Bl w (w1.alloc (.cells #[.bool true,vI 1,.string d,vI q,.bool u,vU (m:Int),vI e,.bool r] 43))):=b1.alloc b1.size _
 clear b1 SC
 obtain ⟨_,a0,a1,a2,a3,a4,a5,a6,a7⟩:=G1.out
 go_wp2_with fail
 refine (SZ _).mono ?_
 rintro o ws ⟨rfl,es⟩
 subst es
 go_wp2_with fail
 refine (P _ (HT.out.1.next B1.out)).mono ?_
 rintro o w2 ⟨v,rfl,e2,b2⟩
 have B2:Hid (Bl w w2):=B1.out.trans (b2.mono B1.out.size)
 have G2:Hid (PtB w2 w1.heap.size true 1 d q u (m:Int) e r):=G1.out.step b2
 have NM:=num_erv e2 (HT.out.2.below B2.out HT.out.2.pos)
 clear b2 e2 G1 P a0 a1 a2 a3 a4 a5 a6 a7
 obtain ⟨_,a0,a1,a2,a3,a4,a5,a6,a7⟩:=G2.out
 go_wp2_with fail
 refine (MG _).mono ?_
 rintro o w2 ⟨rfl,rfl⟩
 go_wp2_with fail
 refine (IN _).mono ?_
 rintro o w2 ⟨rfl,rfl⟩
 go_wp2_with fail
 all_goals first | (exfalso;omega) | skip
 refine NM.mono ?_
 rintro o w3 ⟨rfl,b3⟩
 have B3:Hid (Bl w w3):=B2.out.trans (b3.mono B2.out.size)
 have G3:Hid (PtB w3 w1.heap.size true 1 d q u (m:Int) e r):=G2.out.step b3
 clear b3 NM G2 a0 a1 a2 a3 a4 a5 a6 a7
 obtain ⟨_,a0,a1,a2,a3,a4,a5,a6,a7⟩:=G3.out
 go_wp2_with fail
 all_goals first | (exfalso;omega) | skip
 refine (P2 _).mono ?_
 rintro o w4 ⟨rfl,b4⟩
 have B4:Hid (Bl w w4):=B3.out.trans (b4.mono B3.out.size)
 have G4:Hid (PtB w4 w1.heap.size true 1 d q u (m:Int) e r):=G3.out.step b4
 clear b4 G3 a0 a1 a2 a3 a4 a5 a6 a7
 obtain ⟨_,a0,a1,a2,a3,a4,a5,a6,a7⟩:=G4.out
 rcases h2 with rfl | ⟨rfl,hp⟩
 · go_wp2_with fail
   all_goals first | (exfalso;omega) | skip
   refine (WK _ (HT.out.1.next B4.out) (HT.out.2.below B4.out HT.out.2.pos)).mono ?_
   rintro o wz ⟨rfl,bz⟩
   have Bz:Hid (Bl w wz):=B4.out.trans (bz.mono B4.out.size)
   clear bz
   go_wp2
   go_ret
   exact ⟨rfl,Bz.out⟩
 · have pe:((n:Int).tmod 2 == 1)=false:=by rw [Int.tmod_eq_emod_of_nonneg (by omega),beq_eq_false_iff_ne];omega
   go_wp2_with fail
   all_goals first | (exfalso;omega) | skip
   refine (WK _ (HT.out.1.next B4.out) (HT.out.2.below B4.out HT.out.2.pos)).mono ?_
   rintro o wz ⟨rfl,bz⟩
   have Bz:Hid (Bl w wz):=B4.out.trans (bz.mono B4.out.size)
   clear bz
   go_wp2
   go_ret
   exact ⟨rfl,Bz.out⟩
theorem sgd_ne {g x:Nat}(hx:x<g):((sgd g true x:Nat):Int) ≠ (x:Int):=by
 intro h
 have q:x+g=x:=by
  have:((x+g:Nat):Int)=(x:Int):=h
  omega
 omega
theorem mg_sgd {g x:Nat}(hx:x<g) (c:Bool):mg g (sgd g c x)=x∧sgd g c x<2 * g:=by
 cases c with
 | false=>exact ⟨Nat.mod_eq_of_lt hx,by show x<2 * g;omega⟩
 | true=>exact ⟨by show (x+g) % g=x;rw [Nat.add_mod_right,Nat.mod_eq_of_lt hx],by show x+g<2 * g;omega⟩
theorem vd_short {t:ByteArray}{p:Int}{c:Bool}(h:VD t p c):t.size≤800:=by
 rcases h with h | h
 · have:t.size=0:=h.1
   omega
 · exact h.len
theorem half16_at {z:Int}{g n f T:Nat}{L:Int}(hz:Fz z g n f T L) {t:ByteArray}{p:Int}{c:Bool}(hv:VD t p c) {b:Nat}(hb:b<n) (w:World) :
 Cb 21 #[dcV t p c,vU (b:Int),vI z] w (.tuple #[vI (ocH f L t p c b),vI 0]):=by
 obtain ⟨en,ng',g2,g0⟩:=fz_parts hz
 refine (half16_ok hz hv hb (fun W=>?_)).mono ?_
 · obtain ⟨k,A,h⟩:=asked_any hz (Nat.le_trans (vd_short hv) (by decide)) p c (b:=b) (by omega) false W
   rcases h with ⟨rfl,_⟩ | ⟨_,no⟩
   · exact A
   · exact absurd ⟨hv,.inl hb⟩ no
 · rintro o w' ⟨N,D,rfl,fr,b'⟩
   obtain ⟨e1,e2⟩:=fr.uniq (ex_frc (hM f b) (hX f L b))
   refine ⟨?_,b'⟩
   unfold ocH
   rw [e1,e2]
theorem pnear_law (l : List UInt8) (hl : l.length ≤ 1048576) (z : Int) (w : World) (hT : Tab w) (hg : ErrT w) :
    Calls Tryz.prog 5 #[.string (sB l), .int .i64 z] w fun o w' => o = .returned (.bool true) ∧ Below w.heap.size w w' := by
  have SC := fun W => rscan_any l hl W
  cases hs : scn l with
  | none =>
    rw [hs] at SC
    exact pnr_no hT hg SC
  | some P =>
    rw [hs] at SC
    obtain ⟨c, k, dd, q, u, m, e, r⟩ := P
    by_cases hk : k = 1
    · subst hk
      rcases fz_ofH z with h | ⟨g, n, f, T, L, hz⟩
      · exact pnr_size hT hg SC (fun W => rsize_no h W)
      · obtain ⟨en, ng', g2, g0⟩ := fz_parts hz
        obtain ⟨hf, hT2, n0⟩ := fz_pos hz
        have n63 : n < 9223372036854775808 := by omega
        have ok := scn_ok hs
        have hv : VD (sB dd) q u := by
          rcases ok with ⟨_, h⟩ | ⟨h0, _⟩ | h0 | ⟨h0, _⟩
          · exact h
          · exact absurd (show (1 : Int) = 2 from h0) (by decide)
          · exact absurd (show (1 : Int) = 3 from h0) (by decide)
          · exact absurd (show (1 : Int) = 4 from h0) (by decide)
        have IN := fun W => rinf_z hz W
        rw [← en] at IN
        have SZ := fun W => rsize_z hz W
        have PA := fun W (t : Tab W) => parse_nil hz t (Nat.le_trans hl (by decide))
        unfold prA at PA
        rw [hs] at PA
        have o1 : ofP g f T L ⟨c, 1, dd, q, u, m, e, r⟩ = (sgd g c (nrX f T L (sB dd) q u).1, (nrX f T L (sB dd) q u).2) := rfl
        dsimp only at PA
        rw [o1] at PA
        dsimp only at PA
        rcases id hv with ⟨h0, hq0, hu0⟩ | h
        · have d0 : dd = [] := List.eq_nil_of_length_eq_zero h0
          subst d0
          have hq : q = 0 := hq0
          have hu : u = false := hu0
          subst hq
          subst hu
          have e : nrX f T L (sB []) 0 false = (0, false) := by unfold nrX; exact if_pos rfl
          rw [e] at PA
          have a : ocH f L (sB []) 0 false 0 = -1 := by
            unfold ocH
            apply oc_lt
            have k := half_ne (ex_frc (hM f 0) (hX f L 0))
            have q : frN (sB []) (nrP 0) = 0 := by unfold frN; rw [show dvA (sB []) 0 (ByteArray.size (sB [])) = 0 from rfl, Nat.zero_mul]
            rw [q, Nat.zero_mul]
            exact Nat.mul_pos (by omega) (Nat.pow_pos (by decide))
          have MG := fun W => rmag_z hz (mg_sgd (g := g) (x := 0) (by omega) c).2 W
          rw [(mg_sgd (g := g) (x := 0) (by omega) c).1] at MG
          cases c with
          | false => exact pnr_zero_f n0 n63 (.inl a) hT hg SC SZ PA MG IN (fun W => half16_at hz hv n0 W)
          | true => exact pnr_zero_t n0 n63 (.inl a) (sgd_ne (by omega)) hT hg SC SZ PA MG IN (fun W => half16_at hz hv n0 W)
        · obtain ⟨N0, D0⟩ := h.num (nrP q)
          have e : nrX f T L (sB dd) q u = rdA f T L (frN (sB dd) (nrP q)) (frD (sB dd) (nrP q)) 0 u := by unfold nrX; rw [if_neg (by have := h.pos; omega)]
          have r := rdN_RD hf (L := L) (e := 0) u N0 D0
          have a := rdA_of (T := T) hf N0 D0 r
          generalize rdN f L (frN (sB dd) (nrP q)) (frD (sB dd) (nrP q)) 0 u = y at r a
          rw [a, ← en] at e
          by_cases qq : y < n
          · rw [if_pos qq] at e
            rw [e] at PA
            have up := (up_oc (ex_frc (hM f y) (hX f L y)) (ex_frc (hM f y) (hX f L y)).pos).1 r.1
            have MG := fun W => rmag_z hz (mg_sgd (g := g) (x := y) (by omega) c).2 W
            rw [(mg_sgd (g := g) (x := y) (by omega) c).1] at MG
            by_cases y0 : y = 0
            · subst y0
              cases c with
              | false => exact pnr_zero_f n0 n63 up hT hg SC SZ PA MG IN (fun W => half16_at hz hv n0 W)
              | true => exact pnr_zero_t n0 n63 up (sgd_ne (by omega)) hT hg SC SZ PA MG IN (fun W => half16_at hz hv n0 W)
            · have dn := dn_oc y0 (ex_frc (hM f (y - 1)) (hX f L (y - 1))) (ex_frc (hM f (y - 1)) (hX f L (y - 1))).pos (r.2.resolve_left y0)
              have P2 := fun W => half16_at hz hv (b := y - 1) (by omega) W
              rw [show ((y - 1 : Nat) : Int) = (y : Int) - 1 from by omega] at P2
              cases c with
              | false => exact pnr_mid_f n0 n63 (by omega) qq up dn hT hg SC SZ PA MG IN (fun W => half16_at hz hv qq W) P2
              | true => exact pnr_mid_t n0 n63 (by omega) qq up dn (sgd_ne (by omega)) hT hg SC SZ PA MG IN (fun W => half16_at hz hv qq W) P2
          · rw [if_neg qq] at e
            rw [e] at PA
            have dn := dn_oc (b := n) (by omega) (ex_frc (hM f (n - 1)) (hX f L (n - 1))) (ex_frc (hM f (n - 1)) (hX f L (n - 1))).pos (fun u => by have := r.le (Nat.pos_of_ne_zero D0) u; omega)
            have MG := fun W => rmag_z hz (mg_sgd (g := g) (x := n) (by omega) c).2 W
            rw [(mg_sgd (g := g) (x := n) (by omega) c).1] at MG
            have P2 := fun W => half16_at hz hv (b := n - 1) (by omega) W
            rw [show ((n - 1 : Nat) : Int) = (n : Int) - 1 from by omega] at P2
            cases c with
            | false => exact pnr_inf_f n0 n63 dn hT hg SC SZ PA MG IN P2
            | true => exact pnr_inf_t n0 n63 dn (sgd_ne (by omega)) hT hg SC SZ PA MG IN P2
    · exact pnr_kind hk hT hg SC
end Go.Proofs.YteeobndfnkeldaaGreatDoor
