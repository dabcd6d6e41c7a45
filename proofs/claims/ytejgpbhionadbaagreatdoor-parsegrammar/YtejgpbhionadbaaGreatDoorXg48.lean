/-
  Holds: UBtR URnJ LawPGrammar.
-/
import Derived.Test.YtejgpbhionadbaaGreatDoorShelf
import Derived.Lib.ItoaNum
import Derived.WalkSpells
import Derived.WalkLawsBesides
import Derived.Lib.Mul64
import Derived.Lib.TrailingZeros
import Derived.Deep.OwnRows
import Derived.Laws.CopyOwn
import Derived.BigQuiet
import Derived.Deep.RegionHeld3
import Derived.Deep.LoopGhost
import Derived.Deep.AppendLies
import Derived.Deep.DeepCutAuto
import Derived.Stop.Asserts
import Derived.RowKitTokens
import Derived.Lib.BufferWrite
import Derived.Lib.ConvBytes
import Derived.Test.YtejgpbhionadbaaGreatDoorRows
import Derived.Laws.EntriesVeiled
import Derived.Test.YtejgpbhionadbaaGreatDoorXg43
import Derived.Test.YtejgpbhionadbaaGreatDoorXg47
set_option maxRecDepth 100000
set_option maxHeartbeats 4000000
namespace Go.Proofs.YtejgpbhionadbaaGreatDoor
open Go.RowKit
theorem rnan_32 (w:World):Cs 15 #[vI 32] w (vU 2143289344):=by
 have hor:bits BinOp.or IntKind.u64 2139095040 4194304=2143289344:=by decide
 have H1:=fun W=>rinf_32 W
 have H2:=fun W=>rfrac_32 W
 go_enter Tryz.func15,Tryz.ntmps15
 go_wp2_with fail
 refine (H1 _).mono ?_
 rintro e w ⟨rfl,rfl⟩
 go_wp2_with fail
 refine (H2 _).mono ?_
 rintro e w ⟨rfl,rfl⟩
 go_wp2
 go_ret
 exact ⟨rfl,rfl⟩
theorem rnan_64 (w:World):Cs 15 #[vI 64] w (vU 9221120237041090560):=by
 have hor:bits BinOp.or IntKind.u64 9218868437227405312 2251799813685248=9221120237041090560:=by decide
 have H1:=fun W=>rinf_64 W
 have H2:=fun W=>rfrac_64 W
 go_enter Tryz.func15,Tryz.ntmps15
 go_wp2_with fail
 refine (H1 _).mono ?_
 rintro e w ⟨rfl,rfl⟩
 go_wp2_with fail
 refine (H2 _).mono ?_
 rintro e w ⟨rfl,rfl⟩
 go_wp2
 go_ret
 exact ⟨rfl,rfl⟩
theorem rsigned_z2 {s:Int}{g n f T:Nat}{L:Int}(h:Fz s g n f T L) {x:Nat}(hx:x≤T * 2 ^ f) (c:Bool) (w:World):Cs 18 #[.bool c,vU (x:Int),vI s] w (vU ((sgd g c x:Nat):Int)):=by
 rcases h with ⟨rfl,rfl,rfl,rfl,rfl,rfl⟩ | ⟨rfl,rfl,rfl,rfl,rfl,rfl⟩
 · exact rsigned_32 (by omega) c w
 · exact rsigned_64 (by omega) c w
theorem pgr_size_no {s:ByteArray}{z:Int}{w:World}(hT:Tab w) (hg:ErrT w)
 (PA:∀ W,Tab W → Calls Tryz.prog 11 #[.string s,vI z,.pointer none] W fun o w'=>∃ v,o=.returned (.tuple #[vU 0,v])∧ErV w' 5 cPrs s v∧Bl W w')
 (SC:∀ W,Cb 12 #[.string s] W (.tuple #[.agg #[.bool false,vI 0,.string ⟨#[]⟩,vI 0,.bool false,vU 0,vI 0,.bool false],vI 3]))
 (SZ:∀ W,Cs 13 #[vI z] W (.bool false)) :
 Cb 4 #[.string s,vI z] w (.bool true):=by
 have HT:Hid (Tab w∧ErrT w):=⟨hT,hg⟩
 have WK:=fun W (h:Tab W) (h':ErrT W)=>works18 W h h'
 clear hT hg
 go_enter Tryz.func4,Tryz.ntmps4
 go_wp2_with fail
 all_goals first | (exfalso;omega) | skip
 refine (PA _ HT.out.1).mono ?_
 rintro o w1 ⟨v,rfl,ev,b1⟩
 have B1:Hid (Bl w w1):=b1
 have Ev1:Hid (ErV w1 5 cPrs s v):=ev
 clear b1 ev
 go_wp2_with fail
 refine (SC _).mono ?_
 rintro o w2 ⟨rfl,b2⟩
 have A2:Hid (Bl w1 (w2.alloc (.cells #[.bool false,vI 0,.string ⟨#[]⟩,vI 0,.bool false,vU 0,vI 0,.bool false] 43))):=b2.alloc b2.size _
 have B2:Hid (Bl w (w2.alloc (.cells #[.bool false,vI 0,.string ⟨#[]⟩,vI 0,.bool false,vU 0,vI 0,.bool false] 43))):=B1.out.trans (A2.out.mono B1.out.size)
 have Ev2:Hid (ErV (w2.alloc (.cells #[.bool false,vI 0,.string ⟨#[]⟩,vI 0,.bool false,vU 0,vI 0,.bool false] 43)) 5 cPrs s v):=Ev1.out.below A2.out (Nat.le_refl _)
 have G2:Hid (PtB (w2.alloc (.cells #[.bool false,vI 0,.string ⟨#[]⟩,vI 0,.bool false,vU 0,vI 0,.bool false] 43)) w2.heap.size false 0 ⟨#[]⟩ 0 false 0 0 false):=PtB.new _ _ _ _ _ _ _ _ _ _
 clear b2 A2 B1 Ev1
 obtain ⟨_,a0,a1,a2,a3,a4,a5,a6,a7⟩:=G2.out
 go_wp2_with fail
 all_goals first | (exfalso;omega) | skip
 refine (SZ _).mono ?_
 rintro o ws ⟨rfl,es⟩
 subst es
 have NM:=num_erv Ev2.out (HT.out.2.below B2.out HT.out.2.pos)
 go_wp2_with fail
 all_goals first | (exfalso;omega) | skip
 refine NM.mono ?_
 rintro o w3 ⟨rfl,b3⟩
 clear NM
 have B3:Hid (Bl w w3):=B2.out.trans (b3.mono B2.out.size)
 have Ev3:Hid (ErV w3 5 cPrs s v):=Ev2.out.below b3 (Nat.le_refl _)
 have G3:Hid (PtB w3 w2.heap.size false 0 ⟨#[]⟩ 0 false 0 0 false):=G2.out.step b3
 clear b3 B2 Ev2 G2
 clear a0 a1 a2 a3 a4 a5 a6 a7
 obtain ⟨_,a0,a1,a2,a3,a4,a5,a6,a7⟩:=G3.out
 go_wp2_with fail
 all_goals first | (exfalso;omega) | skip
 refine (WK _ (HT.out.1.next B3.out) (HT.out.2.below B3.out HT.out.2.pos)).mono ?_
 rintro o wz ⟨rfl,bz⟩
 have Bz:Hid (Bl w wz):=B3.out.trans (bz.mono B3.out.size)
 clear bz
 go_wp2
 go_ret
 exact ⟨rfl,Bz.out⟩
theorem pgr_size_yes {s:ByteArray}{z:Int}{c:Bool}{kd:Int}{d:ByteArray}{q:Int}{u:Bool}{m:Nat}{e:Int}{r:Bool}{w:World}(hT:Tab w) (hg:ErrT w)
 (PA:∀ W,Tab W → Calls Tryz.prog 11 #[.string s,vI z,.pointer none] W fun o w'=>∃ v,o=.returned (.tuple #[vU 0,v])∧ErV w' 5 cPrs s v∧Bl W w')
 (SC:∀ W,Cb 12 #[.string s] W (.tuple #[ptV c kd d q u (m:Int) e r,vI 0]))
 (SZ:∀ W,Cs 13 #[vI z] W (.bool false)) :
 Cb 4 #[.string s,vI z] w (.bool true):=by
 have HT:Hid (Tab w∧ErrT w):=⟨hT,hg⟩
 have WK:=fun W (h:Tab W) (h':ErrT W)=>works18 W h h'
 clear hT hg
 unfold ptV at *
 go_enter Tryz.func4,Tryz.ntmps4
 go_wp2_with fail
 all_goals first | (exfalso;omega) | skip
 refine (PA _ HT.out.1).mono ?_
 rintro o w1 ⟨v,rfl,ev,b1⟩
 have B1:Hid (Bl w w1):=b1
 have Ev1:Hid (ErV w1 5 cPrs s v):=ev
 clear b1 ev
 go_wp2_with fail
 refine (SC _).mono ?_
 rintro o w2 ⟨rfl,b2⟩
 have A2:Hid (Bl w1 (w2.alloc (.cells #[.bool c,vI kd,.string d,vI q,.bool u,vU (m:Int),vI e,.bool r] 43))):=b2.alloc b2.size _
 have B2:Hid (Bl w (w2.alloc (.cells #[.bool c,vI kd,.string d,vI q,.bool u,vU (m:Int),vI e,.bool r] 43))):=B1.out.trans (A2.out.mono B1.out.size)
 have Ev2:Hid (ErV (w2.alloc (.cells #[.bool c,vI kd,.string d,vI q,.bool u,vU (m:Int),vI e,.bool r] 43)) 5 cPrs s v):=Ev1.out.below A2.out (Nat.le_refl _)
 have G2:Hid (PtB (w2.alloc (.cells #[.bool c,vI kd,.string d,vI q,.bool u,vU (m:Int),vI e,.bool r] 43)) w2.heap.size c kd d q u (m:Int) e r):=PtB.new _ _ _ _ _ _ _ _ _ _
 clear b2 A2 B1 Ev1
 obtain ⟨_,a0,a1,a2,a3,a4,a5,a6,a7⟩:=G2.out
 go_wp2_with fail
 all_goals first | (exfalso;omega) | skip
 refine (SZ _).mono ?_
 rintro o ws ⟨rfl,es⟩
 subst es
 have NM:=num_erv Ev2.out (HT.out.2.below B2.out HT.out.2.pos)
 go_wp2_with fail
 all_goals first | (exfalso;omega) | skip
 refine NM.mono ?_
 rintro o w3 ⟨rfl,b3⟩
 clear NM
 have B3:Hid (Bl w w3):=B2.out.trans (b3.mono B2.out.size)
 have Ev3:Hid (ErV w3 5 cPrs s v):=Ev2.out.below b3 (Nat.le_refl _)
 have G3:Hid (PtB w3 w2.heap.size c kd d q u (m:Int) e r):=G2.out.step b3
 clear b3 B2 Ev2 G2
 clear a0 a1 a2 a3 a4 a5 a6 a7
 obtain ⟨_,a0,a1,a2,a3,a4,a5,a6,a7⟩:=G3.out
 go_wp2_with fail
 all_goals first | (exfalso;omega) | skip
 refine (WK _ (HT.out.1.next B3.out) (HT.out.2.below B3.out HT.out.2.pos)).mono ?_
 rintro o wz ⟨rfl,bz⟩
 have Bz:Hid (Bl w wz):=B3.out.trans (bz.mono B3.out.size)
 clear bz
 go_wp2
 go_ret
 exact ⟨rfl,Bz.out⟩
theorem pgr_none {s:ByteArray}{z:Int}{w:World}(hT:Tab w) (hg:ErrT w)
 (PA:∀ W,Tab W → Calls Tryz.prog 11 #[.string s,vI z,.pointer none] W fun o w'=>∃ v,o=.returned (.tuple #[vU 0,v])∧ErV w' 3 cPrs s v∧Bl W w')
 (SC:∀ W,Cb 12 #[.string s] W (.tuple #[.agg #[.bool false,vI 0,.string ⟨#[]⟩,vI 0,.bool false,vU 0,vI 0,.bool false],vI 3]))
 (SZ:∀ W,Cs 13 #[vI z] W (.bool true)) :
 Cb 4 #[.string s,vI z] w (.bool true):=by
 have HT:Hid (Tab w∧ErrT w):=⟨hT,hg⟩
 have WK:=fun W (h:Tab W) (h':ErrT W)=>works18 W h h'
 clear hT hg
 go_enter Tryz.func4,Tryz.ntmps4
 go_wp2_with fail
 all_goals first | (exfalso;omega) | skip
 refine (PA _ HT.out.1).mono ?_
 rintro o w1 ⟨v,rfl,ev,b1⟩
 have B1:Hid (Bl w w1):=b1
 have Ev1:Hid (ErV w1 3 cPrs s v):=ev
 clear b1 ev
 go_wp2_with fail
 refine (SC _).mono ?_
 rintro o w2 ⟨rfl,b2⟩
 have A2:Hid (Bl w1 (w2.alloc (.cells #[.bool false,vI 0,.string ⟨#[]⟩,vI 0,.bool false,vU 0,vI 0,.bool false] 43))):=b2.alloc b2.size _
 have B2:Hid (Bl w (w2.alloc (.cells #[.bool false,vI 0,.string ⟨#[]⟩,vI 0,.bool false,vU 0,vI 0,.bool false] 43))):=B1.out.trans (A2.out.mono B1.out.size)
 have Ev2:Hid (ErV (w2.alloc (.cells #[.bool false,vI 0,.string ⟨#[]⟩,vI 0,.bool false,vU 0,vI 0,.bool false] 43)) 3 cPrs s v):=Ev1.out.below A2.out (Nat.le_refl _)
 have G2:Hid (PtB (w2.alloc (.cells #[.bool false,vI 0,.string ⟨#[]⟩,vI 0,.bool false,vU 0,vI 0,.bool false] 43)) w2.heap.size false 0 ⟨#[]⟩ 0 false 0 0 false):=PtB.new _ _ _ _ _ _ _ _ _ _
 clear b2 A2 B1 Ev1
 obtain ⟨_,a0,a1,a2,a3,a4,a5,a6,a7⟩:=G2.out
 go_wp2_with fail
 all_goals first | (exfalso;omega) | skip
 refine (SZ _).mono ?_
 rintro o ws ⟨rfl,es⟩
 subst es
 have NM:=num_erv Ev2.out (HT.out.2.below B2.out HT.out.2.pos)
 go_wp2_with fail
 all_goals first | (exfalso;omega) | skip
 refine NM.mono ?_
 rintro o w3 ⟨rfl,b3⟩
 clear NM
 have B3:Hid (Bl w w3):=B2.out.trans (b3.mono B2.out.size)
 have Ev3:Hid (ErV w3 3 cPrs s v):=Ev2.out.below b3 (Nat.le_refl _)
 have G3:Hid (PtB w3 w2.heap.size false 0 ⟨#[]⟩ 0 false 0 0 false):=G2.out.step b3
 clear b3 B2 Ev2 G2
 clear a0 a1 a2 a3 a4 a5 a6 a7
 obtain ⟨_,a0,a1,a2,a3,a4,a5,a6,a7⟩:=G3.out
 go_wp2_with fail
 all_goals first | (exfalso;omega) | skip
 refine (WK _ (HT.out.1.next B3.out) (HT.out.2.below B3.out HT.out.2.pos)).mono ?_
 rintro o wz ⟨rfl,bz⟩
 have Bz:Hid (Bl w wz):=B3.out.trans (bz.mono B3.out.size)
 clear bz
 go_wp2
 go_ret
 exact ⟨rfl,Bz.out⟩
theorem pgr_nan {s:ByteArray}{z:Int}{A:Nat}{c:Bool}{d:ByteArray}{q:Int}{u:Bool}{m:Nat}{e:Int}{r:Bool}{w:World}(hT:Tab w) (hg:ErrT w)
 (PA:∀ W,Tab W → Calls Tryz.prog 11 #[.string s,vI z,.pointer none] W fun o w'=>∃ v,o=.returned (.tuple #[vU (A:Int),v])∧ErV w' 0 cPrs s v∧Bl W w')
 (SC:∀ W,Cb 12 #[.string s] W (.tuple #[ptV c 4 d q u (m:Int) e r,vI 0]))
 (SZ:∀ W,Cs 13 #[vI z] W (.bool true))
 (NA:∀ W,Cs 15 #[vI z] W (vU (A:Int))) :
 Cb 4 #[.string s,vI z] w (.bool true):=by
 have HT:Hid (Tab w∧ErrT w):=⟨hT,hg⟩
 have WK:=fun W (h:Tab W) (h':ErrT W)=>works18 W h h'
 clear hT hg
 have qA:((A:Int) == (A:Int))=true:=beq_self_eq_true _
 unfold ptV at *
 go_enter Tryz.func4,Tryz.ntmps4
 go_wp2_with fail
 all_goals first | (exfalso;omega) | skip
 refine (PA _ HT.out.1).mono ?_
 rintro o w1 ⟨v,rfl,ev,b1⟩
 have B1:Hid (Bl w w1):=b1
 have Ev1:Hid (ErV w1 0 cPrs s v):=ev
 clear b1 ev
 obtain rfl:=Ev1.out.nil
 clear Ev1
 go_wp2_with fail
 refine (SC _).mono ?_
 rintro o w2 ⟨rfl,b2⟩
 have A2:Hid (Bl w1 (w2.alloc (.cells #[.bool c,vI 4,.string d,vI q,.bool u,vU (m:Int),vI e,.bool r] 43))):=b2.alloc b2.size _
 have B2:Hid (Bl w (w2.alloc (.cells #[.bool c,vI 4,.string d,vI q,.bool u,vU (m:Int),vI e,.bool r] 43))):=B1.out.trans (A2.out.mono B1.out.size)
 have G2:Hid (PtB (w2.alloc (.cells #[.bool c,vI 4,.string d,vI q,.bool u,vU (m:Int),vI e,.bool r] 43)) w2.heap.size c 4 d q u (m:Int) e r):=PtB.new _ _ _ _ _ _ _ _ _ _
 clear b2 A2 B1
 obtain ⟨_,a0,a1,a2,a3,a4,a5,a6,a7⟩:=G2.out
 go_wp2_with fail
 all_goals first | (exfalso;omega) | skip
 refine (SZ _).mono ?_
 rintro o ws ⟨rfl,es⟩
 subst es
 have NM:=num_nil (w2.alloc (.cells #[.bool c,vI 4,.string d,vI q,.bool u,vU (m:Int),vI e,.bool r] 43))
 go_wp2_with fail
 refine NM.mono ?_
 rintro o w3 ⟨rfl,b3⟩
 clear NM
 have B3:Hid (Bl w w3):=B2.out.trans (b3.mono B2.out.size)
 have G3:Hid (PtB w3 w2.heap.size c 4 d q u (m:Int) e r):=G2.out.step b3
 clear b3 B2 G2
 clear a0 a1 a2 a3 a4 a5 a6 a7
 obtain ⟨_,a0,a1,a2,a3,a4,a5,a6,a7⟩:=G3.out
 go_wp2_with fail
 all_goals first | (exfalso;omega) | skip
 refine (NA _).mono ?_
 rintro o ws ⟨rfl,es⟩
 subst es
 go_wp2_with fail
 all_goals first | (exfalso;omega) | skip
 refine (WK _ (HT.out.1.next B3.out) (HT.out.2.below B3.out HT.out.2.pos)).mono ?_
 rintro o wz ⟨rfl,bz⟩
 have Bz:Hid (Bl w wz):=B3.out.trans (bz.mono B3.out.size)
 clear bz
 go_wp2
 go_ret
 exact ⟨rfl,Bz.out⟩
theorem pgr_minus_zero {s t tm:ByteArray}{z:Int}{A B x:Nat}{c:Bool}{kd:Int}{d:ByteArray}{q:Int}{u:Bool}{m:Nat}{e:Int}{r:Bool}(hk:kd ≠ 4) (hs:0<s.size) (hl:s.size≤140737488351232) (ht:t.size≤140737488351232) (hm:⟨#[45]⟩ ++ t=tm) (c0:(((s[0]'hs).toNat:Nat):Int)=45) (et:s.extract 1 s.size=t) {w:World}(hT:Tab w) (hg:ErrT w)
 (PA:∀ W,Tab W → Calls Tryz.prog 11 #[.string s,vI z,.pointer none] W fun o w'=>∃ v,o=.returned (.tuple #[vU (A:Int),v])∧ErV w' 0 cPrs s v∧Bl W w')
 (SC:∀ W,Cb 12 #[.string s] W (.tuple #[ptV c kd d q u (m:Int) e r,vI 0]))
 (SZ:∀ W,Cs 13 #[vI z] W (.bool true))
 (PB:∀ W,Tab W → Calls Tryz.prog 11 #[.string tm,vI z,.pointer none] W fun o w'=>∃ v,o=.returned (.tuple #[vU (B:Int),v])∧ErV w' 0 cPrs tm v∧Bl W w')
 (PC:∀ W,Tab W → Calls Tryz.prog 11 #[.string t,vI z,.pointer none] W fun o w'=>∃ v,o=.returned (.tuple #[vU (x:Int),v])∧ErV w' 0 cPrs t v∧Bl W w')
 (SG:∀ W,Cs 18 #[.bool true,vU (x:Int),vI z] W (vU (B:Int)))
 (MA:∀ W,Cs 16 #[vU (A:Int),vI z] W (vU (x:Int)))
 (MC:∀ W,Cs 16 #[vU (x:Int),vI z] W (vU (x:Int))) :
 Cb 4 #[.string s,vI z] w (.bool true):=by
 have HT:Hid (Tab w∧ErrT w):=⟨hT,hg⟩
 have WK:=fun W (h:Tab W) (h':ErrT W)=>works18 W h h'
 clear hT hg
 have k4:(kd == 4)=false:=beq_eq_false_iff_ne.mpr hk
 have s0:(0:Int)<(s.size:Int):=by omega
 have qB:((B:Int) == (B:Int))=true:=beq_self_eq_true _
 have qX:((x:Int) == (x:Int))=true:=beq_self_eq_true _
 have hsum:¬ 9223372036854775807<(⟨#[45]⟩:ByteArray).size+t.size:=by
  have:(⟨#[45]⟩:ByteArray).size=1:=rfl
  omega
 have i1:(1:Int)≤(s.size:Int):=by omega
 clear hk ht
 unfold ptV at *
 go_enter Tryz.func4,Tryz.ntmps4
 go_wp2_with fail
 all_goals first | (exfalso;omega) | skip
 refine (PA _ HT.out.1).mono ?_
 rintro o w1 ⟨v,rfl,ev,b1⟩
 have B1:Hid (Bl w w1):=b1
 have Ev1:Hid (ErV w1 0 cPrs s v):=ev
 clear b1 ev
 go_wp2_with fail
 refine (SC _).mono ?_
 rintro o w2 ⟨rfl,b2⟩
 have A2:Hid (Bl w1 (w2.alloc (.cells #[.bool c,vI kd,.string d,vI q,.bool u,vU (m:Int),vI e,.bool r] 43))):=b2.alloc b2.size _
 have B2:Hid (Bl w (w2.alloc (.cells #[.bool c,vI kd,.string d,vI q,.bool u,vU (m:Int),vI e,.bool r] 43))):=B1.out.trans (A2.out.mono B1.out.size)
 have Ev2:Hid (ErV (w2.alloc (.cells #[.bool c,vI kd,.string d,vI q,.bool u,vU (m:Int),vI e,.bool r] 43)) 0 cPrs s v):=Ev1.out.below A2.out (Nat.le_refl _)
 have G2:Hid (PtB (w2.alloc (.cells #[.bool c,vI kd,.string d,vI q,.bool u,vU (m:Int),vI e,.bool r] 43)) w2.heap.size c kd d q u (m:Int) e r):=PtB.new _ _ _ _ _ _ _ _ _ _
 clear b2 A2 B1 Ev1
 obtain ⟨_,a0,a1,a2,a3,a4,a5,a6,a7⟩:=G2.out
 go_wp2_with fail
 all_goals first | (exfalso;omega) | skip
 refine (SZ _).mono ?_
 rintro o ws ⟨rfl,es⟩
 subst es
 have NM:=num_erv Ev2.out (HT.out.2.below B2.out HT.out.2.pos)
 go_wp2_with fail
 all_goals first | (exfalso;omega) | skip
 refine NM.mono ?_
 rintro o w3 ⟨rfl,b3⟩
 clear NM
 have B3:Hid (Bl w w3):=B2.out.trans (b3.mono B2.out.size)
 have Ev3:Hid (ErV w3 0 cPrs s v):=Ev2.out.below b3 (Nat.le_refl _)
 have G3:Hid (PtB w3 w2.heap.size c kd d q u (m:Int) e r):=G2.out.step b3
 clear b3 B2 Ev2 G2
 clear a0 a1 a2 a3 a4 a5 a6 a7
 obtain ⟨_,a0,a1,a2,a3,a4,a5,a6,a7⟩:=G3.out
 go_wp2_with fail
 all_goals first | (exfalso;omega) | skip
 refine (PB _ (HT.out.1.next B3.out)).mono ?_
 rintro o w4 ⟨vb,rfl,evb,b4⟩
 have B4:Hid (Bl w w4):=B3.out.trans (b4.mono B3.out.size)
 have Ev4:Hid (ErV w4 0 cPrs s v):=Ev3.out.below b4 (Nat.le_refl _)
 have G4:Hid (PtB w4 w2.heap.size c kd d q u (m:Int) e r):=G3.out.step b4
 have Evb4:Hid (ErV w4 0 cPrs tm vb):=evb
 clear b4 evb B3 Ev3 G3
 clear a0 a1 a2 a3 a4 a5 a6 a7
 obtain ⟨_,a0,a1,a2,a3,a4,a5,a6,a7⟩:=G4.out
 go_wp2_with fail
 all_goals first | (exfalso;omega) | skip
 refine (PC _ (HT.out.1.next B4.out)).mono ?_
 rintro o w5 ⟨vc,rfl,evc,b5⟩
 have B5:Hid (Bl w w5):=B4.out.trans (b5.mono B4.out.size)
 have Ev5:Hid (ErV w5 0 cPrs s v):=Ev4.out.below b5 (Nat.le_refl _)
 have Evb5:Hid (ErV w5 0 cPrs tm vb):=Evb4.out.below b5 (Nat.le_refl _)
 have G5:Hid (PtB w5 w2.heap.size c kd d q u (m:Int) e r):=G4.out.step b5
 have Evc5:Hid (ErV w5 0 cPrs t vc):=evc
 clear b5 evc B4 Ev4 Evb4 G4
 clear a0 a1 a2 a3 a4 a5 a6 a7
 obtain ⟨_,a0,a1,a2,a3,a4,a5,a6,a7⟩:=G5.out
 have NM:=num_erv Ev5.out (HT.out.2.below B5.out HT.out.2.pos)
 go_wp2_with fail
 all_goals first | (exfalso;omega) | skip
 refine NM.mono ?_
 rintro o w6 ⟨rfl,b6⟩
 clear NM
 have B6:Hid (Bl w w6):=B5.out.trans (b6.mono B5.out.size)
 have Ev6:Hid (ErV w6 0 cPrs s v):=Ev5.out.below b6 (Nat.le_refl _)
 have Evb6:Hid (ErV w6 0 cPrs tm vb):=Evb5.out.below b6 (Nat.le_refl _)
 have Evc6:Hid (ErV w6 0 cPrs t vc):=Evc5.out.below b6 (Nat.le_refl _)
 have G6:Hid (PtB w6 w2.heap.size c kd d q u (m:Int) e r):=G5.out.step b6
 clear b6 B5 Ev5 Evb5 Evc5 G5
 clear a0 a1 a2 a3 a4 a5 a6 a7
 obtain ⟨_,a0,a1,a2,a3,a4,a5,a6,a7⟩:=G6.out
 go_wp2_with fail
 all_goals first | (exfalso;omega) | skip
 refine (SG _).mono ?_
 rintro o ws ⟨rfl,es⟩
 subst es
 go_wp2_with fail
 all_goals first | (exfalso;omega) | skip
 refine (MC _).mono ?_
 rintro o ws ⟨rfl,es⟩
 subst es
 go_wp2_with fail
 all_goals first | (exfalso;omega) | skip
 refine (MA _).mono ?_
 rintro o ws ⟨rfl,es⟩
 subst es
 have NM:=num_erv Evb6.out (HT.out.2.below B6.out HT.out.2.pos)
 go_wp2_with fail
 all_goals first | (exfalso;omega) | skip
 refine NM.mono ?_
 rintro o w7 ⟨rfl,b7⟩
 clear NM
 have B7:Hid (Bl w w7):=B6.out.trans (b7.mono B6.out.size)
 have Ev7:Hid (ErV w7 0 cPrs s v):=Ev6.out.below b7 (Nat.le_refl _)
 have Evb7:Hid (ErV w7 0 cPrs tm vb):=Evb6.out.below b7 (Nat.le_refl _)
 have Evc7:Hid (ErV w7 0 cPrs t vc):=Evc6.out.below b7 (Nat.le_refl _)
 have G7:Hid (PtB w7 w2.heap.size c kd d q u (m:Int) e r):=G6.out.step b7
 clear b7 B6 Ev6 Evb6 Evc6 G6
 clear a0 a1 a2 a3 a4 a5 a6 a7
 obtain ⟨_,a0,a1,a2,a3,a4,a5,a6,a7⟩:=G7.out
 have NM:=num_erv Ev7.out (HT.out.2.below B7.out HT.out.2.pos)
 go_wp2_with fail
 all_goals first | (exfalso;omega) | skip
 refine NM.mono ?_
 rintro o w8 ⟨rfl,b8⟩
 clear NM
 have B8:Hid (Bl w w8):=B7.out.trans (b8.mono B7.out.size)
 have Ev8:Hid (ErV w8 0 cPrs s v):=Ev7.out.below b8 (Nat.le_refl _)
 have Evb8:Hid (ErV w8 0 cPrs tm vb):=Evb7.out.below b8 (Nat.le_refl _)
 have Evc8:Hid (ErV w8 0 cPrs t vc):=Evc7.out.below b8 (Nat.le_refl _)
 have G8:Hid (PtB w8 w2.heap.size c kd d q u (m:Int) e r):=G7.out.step b8
 clear b8 B7 Ev7 Evb7 Evc7 G7
 clear a0 a1 a2 a3 a4 a5 a6 a7
 obtain ⟨_,a0,a1,a2,a3,a4,a5,a6,a7⟩:=G8.out
 have NM:=num_erv Evc8.out (HT.out.2.below B8.out HT.out.2.pos)
 go_wp2_with fail
 all_goals first | (exfalso;omega) | skip
 refine NM.mono ?_
 rintro o w9 ⟨rfl,b9⟩
 clear NM
 have B9:Hid (Bl w w9):=B8.out.trans (b9.mono B8.out.size)
 have Ev9:Hid (ErV w9 0 cPrs s v):=Ev8.out.below b9 (Nat.le_refl _)
 have Evb9:Hid (ErV w9 0 cPrs tm vb):=Evb8.out.below b9 (Nat.le_refl _)
 have Evc9:Hid (ErV w9 0 cPrs t vc):=Evc8.out.below b9 (Nat.le_refl _)
 have G9:Hid (PtB w9 w2.heap.size c kd d q u (m:Int) e r):=G8.out.step b9
 clear b9 B8 Ev8 Evb8 Evc8 G8
 clear a0 a1 a2 a3 a4 a5 a6 a7
 obtain ⟨_,a0,a1,a2,a3,a4,a5,a6,a7⟩:=G9.out
 have NM:=num_erv Ev9.out (HT.out.2.below B9.out HT.out.2.pos)
 go_wp2_with fail
 all_goals first | (exfalso;omega) | skip
 refine NM.mono ?_
 rintro o w10 ⟨rfl,b10⟩
 clear NM
 have B10:Hid (Bl w w10):=B9.out.trans (b10.mono B9.out.size)
 have Ev10:Hid (ErV w10 0 cPrs s v):=Ev9.out.below b10 (Nat.le_refl _)
 have Evb10:Hid (ErV w10 0 cPrs tm vb):=Evb9.out.below b10 (Nat.le_refl _)
 have Evc10:Hid (ErV w10 0 cPrs t vc):=Evc9.out.below b10 (Nat.le_refl _)
 have G10:Hid (PtB w10 w2.heap.size c kd d q u (m:Int) e r):=G9.out.step b10
 clear b10 B9 Ev9 Evb9 Evc9 G9
 clear a0 a1 a2 a3 a4 a5 a6 a7
 obtain ⟨_,a0,a1,a2,a3,a4,a5,a6,a7⟩:=G10.out
 go_wp2_with fail
 all_goals first | (exfalso;omega) | skip
 refine (WK _ (HT.out.1.next B10.out) (HT.out.2.below B10.out HT.out.2.pos)).mono ?_
 rintro o wz ⟨rfl,bz⟩
 have Bz:Hid (Bl w wz):=B10.out.trans (bz.mono B10.out.size)
 clear bz
 go_wp2
 go_ret
 exact ⟨rfl,Bz.out⟩
theorem pgr_minus_four {s t tm:ByteArray}{z:Int}{A B n:Nat}{c:Bool}{kd:Int}{d:ByteArray}{q:Int}{u:Bool}{m:Nat}{e:Int}{r:Bool}(hk:kd ≠ 4) (hs:0<s.size) (hl:s.size≤140737488351232) (ht:t.size≤140737488351232) (hm:⟨#[45]⟩ ++ t=tm) (c0:(((s[0]'hs).toNat:Nat):Int)=45) (et:s.extract 1 s.size=t) {w:World}(hT:Tab w) (hg:ErrT w)
 (PA:∀ W,Tab W → Calls Tryz.prog 11 #[.string s,vI z,.pointer none] W fun o w'=>∃ v,o=.returned (.tuple #[vU (A:Int),v])∧ErV w' 4 cPrs s v∧Bl W w')
 (SC:∀ W,Cb 12 #[.string s] W (.tuple #[ptV c kd d q u (m:Int) e r,vI 0]))
 (SZ:∀ W,Cs 13 #[vI z] W (.bool true))
 (PB:∀ W,Tab W → Calls Tryz.prog 11 #[.string tm,vI z,.pointer none] W fun o w'=>∃ v,o=.returned (.tuple #[vU (B:Int),v])∧ErV w' 4 cPrs tm v∧Bl W w')
 (PC:∀ W,Tab W → Calls Tryz.prog 11 #[.string t,vI z,.pointer none] W fun o w'=>∃ v,o=.returned (.tuple #[vU (n:Int),v])∧ErV w' 4 cPrs t v∧Bl W w')
 (SG:∀ W,Cs 18 #[.bool true,vU (n:Int),vI z] W (vU (B:Int)))
 (IN:∀ W,Cs 17 #[vI z] W (vU (n:Int)))
 (MA:∀ W,Cs 16 #[vU (A:Int),vI z] W (vU (n:Int)))
 (MC:∀ W,Cs 16 #[vU (n:Int),vI z] W (vU (n:Int))) :
 Cb 4 #[.string s,vI z] w (.bool true):=by
 have HT:Hid (Tab w∧ErrT w):=⟨hT,hg⟩
 have WK:=fun W (h:Tab W) (h':ErrT W)=>works18 W h h'
 clear hT hg
 have k4:(kd == 4)=false:=beq_eq_false_iff_ne.mpr hk
 have s0:(0:Int)<(s.size:Int):=by omega
 have qB:((B:Int) == (B:Int))=true:=beq_self_eq_true _
 have qX:((n:Int) == (n:Int))=true:=beq_self_eq_true _
 have hsum:¬ 9223372036854775807<(⟨#[45]⟩:ByteArray).size+t.size:=by
  have:(⟨#[45]⟩:ByteArray).size=1:=rfl
  omega
 have i1:(1:Int)≤(s.size:Int):=by omega
 clear hk ht
 unfold ptV at *
 go_enter Tryz.func4,Tryz.ntmps4
 go_wp2_with fail
 all_goals first | (exfalso;omega) | skip
 refine (PA _ HT.out.1).mono ?_
 rintro o w1 ⟨v,rfl,ev,b1⟩
 have B1:Hid (Bl w w1):=b1
 have Ev1:Hid (ErV w1 4 cPrs s v):=ev
 clear b1 ev
 go_wp2_with fail
 refine (SC _).mono ?_
 rintro o w2 ⟨rfl,b2⟩
 have A2:Hid (Bl w1 (w2.alloc (.cells #[.bool c,vI kd,.string d,vI q,.bool u,vU (m:Int),vI e,.bool r] 43))):=b2.alloc b2.size _
 have B2:Hid (Bl w (w2.alloc (.cells #[.bool c,vI kd,.string d,vI q,.bool u,vU (m:Int),vI e,.bool r] 43))):=B1.out.trans (A2.out.mono B1.out.size)
 have Ev2:Hid (ErV (w2.alloc (.cells #[.bool c,vI kd,.string d,vI q,.bool u,vU (m:Int),vI e,.bool r] 43)) 4 cPrs s v):=Ev1.out.below A2.out (Nat.le_refl _)
 have G2:Hid (PtB (w2.alloc (.cells #[.bool c,vI kd,.string d,vI q,.bool u,vU (m:Int),vI e,.bool r] 43)) w2.heap.size c kd d q u (m:Int) e r):=PtB.new _ _ _ _ _ _ _ _ _ _
 clear b2 A2 B1 Ev1
 obtain ⟨_,a0,a1,a2,a3,a4,a5,a6,a7⟩:=G2.out
 go_wp2_with fail
 all_goals first | (exfalso;omega) | skip
 refine (SZ _).mono ?_
 rintro o ws ⟨rfl,es⟩
 subst es
 have NM:=num_erv Ev2.out (HT.out.2.below B2.out HT.out.2.pos)
 go_wp2_with fail
 all_goals first | (exfalso;omega) | skip
 refine NM.mono ?_
 rintro o w3 ⟨rfl,b3⟩
 clear NM
 have B3:Hid (Bl w w3):=B2.out.trans (b3.mono B2.out.size)
 have Ev3:Hid (ErV w3 4 cPrs s v):=Ev2.out.below b3 (Nat.le_refl _)
 have G3:Hid (PtB w3 w2.heap.size c kd d q u (m:Int) e r):=G2.out.step b3
 clear b3 B2 Ev2 G2
 clear a0 a1 a2 a3 a4 a5 a6 a7
 obtain ⟨_,a0,a1,a2,a3,a4,a5,a6,a7⟩:=G3.out
 go_wp2_with fail
 all_goals first | (exfalso;omega) | skip
 refine (PB _ (HT.out.1.next B3.out)).mono ?_
 rintro o w4 ⟨vb,rfl,evb,b4⟩
 have B4:Hid (Bl w w4):=B3.out.trans (b4.mono B3.out.size)
 have Ev4:Hid (ErV w4 4 cPrs s v):=Ev3.out.below b4 (Nat.le_refl _)
 have G4:Hid (PtB w4 w2.heap.size c kd d q u (m:Int) e r):=G3.out.step b4
 have Evb4:Hid (ErV w4 4 cPrs tm vb):=evb
 clear b4 evb B3 Ev3 G3
 clear a0 a1 a2 a3 a4 a5 a6 a7
 obtain ⟨_,a0,a1,a2,a3,a4,a5,a6,a7⟩:=G4.out
 go_wp2_with fail
 all_goals first | (exfalso;omega) | skip
 refine (PC _ (HT.out.1.next B4.out)).mono ?_
 rintro o w5 ⟨vc,rfl,evc,b5⟩
 have B5:Hid (Bl w w5):=B4.out.trans (b5.mono B4.out.size)
 have Ev5:Hid (ErV w5 4 cPrs s v):=Ev4.out.below b5 (Nat.le_refl _)
 have Evb5:Hid (ErV w5 4 cPrs tm vb):=Evb4.out.below b5 (Nat.le_refl _)
 have G5:Hid (PtB w5 w2.heap.size c kd d q u (m:Int) e r):=G4.out.step b5
 have Evc5:Hid (ErV w5 4 cPrs t vc):=evc
 clear b5 evc B4 Ev4 Evb4 G4
 clear a0 a1 a2 a3 a4 a5 a6 a7
 obtain ⟨_,a0,a1,a2,a3,a4,a5,a6,a7⟩:=G5.out
 have NM:=num_erv Ev5.out (HT.out.2.below B5.out HT.out.2.pos)
 go_wp2_with fail
 all_goals first | (exfalso;omega) | skip
 refine NM.mono ?_
 rintro o w6 ⟨rfl,b6⟩
 clear NM
 have B6:Hid (Bl w w6):=B5.out.trans (b6.mono B5.out.size)
 have Ev6:Hid (ErV w6 4 cPrs s v):=Ev5.out.below b6 (Nat.le_refl _)
 have Evb6:Hid (ErV w6 4 cPrs tm vb):=Evb5.out.below b6 (Nat.le_refl _)
 have Evc6:Hid (ErV w6 4 cPrs t vc):=Evc5.out.below b6 (Nat.le_refl _)
 have G6:Hid (PtB w6 w2.heap.size c kd d q u (m:Int) e r):=G5.out.step b6
 clear b6 B5 Ev5 Evb5 Evc5 G5
 clear a0 a1 a2 a3 a4 a5 a6 a7
 obtain ⟨_,a0,a1,a2,a3,a4,a5,a6,a7⟩:=G6.out
 go_wp2_with fail
 all_goals first | (exfalso;omega) | skip
 refine (MA _).mono ?_
 rintro o ws ⟨rfl,es⟩
 subst es
 go_wp2_with fail
 all_goals first | (exfalso;omega) | skip
 refine (IN _).mono ?_
 rintro o ws ⟨rfl,es⟩
 subst es
 go_wp2_with fail
 all_goals first | (exfalso;omega) | skip
 refine (SG _).mono ?_
 rintro o ws ⟨rfl,es⟩
 subst es
 go_wp2_with fail
 all_goals first | (exfalso;omega) | skip
 refine (MC _).mono ?_
 rintro o ws ⟨rfl,es⟩
 subst es
 go_wp2_with fail
 all_goals first | (exfalso;omega) | skip
 refine (MA _).mono ?_
 rintro o ws ⟨rfl,es⟩
 subst es
 have NM:=num_erv Evb6.out (HT.out.2.below B6.out HT.out.2.pos)
 go_wp2_with fail
 all_goals first | (exfalso;omega) | skip
 refine NM.mono ?_
 rintro o w7 ⟨rfl,b7⟩
 clear NM
 have B7:Hid (Bl w w7):=B6.out.trans (b7.mono B6.out.size)
 have Ev7:Hid (ErV w7 4 cPrs s v):=Ev6.out.below b7 (Nat.le_refl _)
 have Evb7:Hid (ErV w7 4 cPrs tm vb):=Evb6.out.below b7 (Nat.le_refl _)
 have Evc7:Hid (ErV w7 4 cPrs t vc):=Evc6.out.below b7 (Nat.le_refl _)
 have G7:Hid (PtB w7 w2.heap.size c kd d q u (m:Int) e r):=G6.out.step b7
 clear b7 B6 Ev6 Evb6 Evc6 G6
 clear a0 a1 a2 a3 a4 a5 a6 a7
 obtain ⟨_,a0,a1,a2,a3,a4,a5,a6,a7⟩:=G7.out
 have NM:=num_erv Ev7.out (HT.out.2.below B7.out HT.out.2.pos)
 go_wp2_with fail
 all_goals first | (exfalso;omega) | skip
 refine NM.mono ?_
 rintro o w8 ⟨rfl,b8⟩
 clear NM
 have B8:Hid (Bl w w8):=B7.out.trans (b8.mono B7.out.size)
 have Ev8:Hid (ErV w8 4 cPrs s v):=Ev7.out.below b8 (Nat.le_refl _)
 have Evb8:Hid (ErV w8 4 cPrs tm vb):=Evb7.out.below b8 (Nat.le_refl _)
 have Evc8:Hid (ErV w8 4 cPrs t vc):=Evc7.out.below b8 (Nat.le_refl _)
 have G8:Hid (PtB w8 w2.heap.size c kd d q u (m:Int) e r):=G7.out.step b8
 clear b8 B7 Ev7 Evb7 Evc7 G7
 clear a0 a1 a2 a3 a4 a5 a6 a7
 obtain ⟨_,a0,a1,a2,a3,a4,a5,a6,a7⟩:=G8.out
 have NM:=num_erv Evc8.out (HT.out.2.below B8.out HT.out.2.pos)
 go_wp2_with fail
 all_goals first | (exfalso;omega) | skip
 refine NM.mono ?_
 rintro o w9 ⟨rfl,b9⟩
 clear NM
 have B9:Hid (Bl w w9):=B8.out.trans (b9.mono B8.out.size)
 have Ev9:Hid (ErV w9 4 cPrs s v):=Ev8.out.below b9 (Nat.le_refl _)
 have Evb9:Hid (ErV w9 4 cPrs tm vb):=Evb8.out.below b9 (Nat.le_refl _)
 have Evc9:Hid (ErV w9 4 cPrs t vc):=Evc8.out.below b9 (Nat.le_refl _)
 have G9:Hid (PtB w9 w2.heap.size c kd d q u (m:Int) e r):=G8.out.step b9
 clear b9 B8 Ev8 Evb8 Evc8 G8
 clear a0 a1 a2 a3 a4 a5 a6 a7
 obtain ⟨_,a0,a1,a2,a3,a4,a5,a6,a7⟩:=G9.out
 have NM:=num_erv Ev9.out (HT.out.2.below B9.out HT.out.2.pos)
 go_wp2_with fail
 all_goals first | (exfalso;omega) | skip
 refine NM.mono ?_
 rintro o w10 ⟨rfl,b10⟩
 clear NM
 have B10:Hid (Bl w w10):=B9.out.trans (b10.mono B9.out.size)
 have Ev10:Hid (ErV w10 4 cPrs s v):=Ev9.out.below b10 (Nat.le_refl _)
 have Evb10:Hid (ErV w10 4 cPrs tm vb):=Evb9.out.below b10 (Nat.le_refl _)
 have Evc10:Hid (ErV w10 4 cPrs t vc):=Evc9.out.below b10 (Nat.le_refl _)
 have G10:Hid (PtB w10 w2.heap.size c kd d q u (m:Int) e r):=G9.out.step b10
 clear b10 B9 Ev9 Evb9 Evc9 G9
 clear a0 a1 a2 a3 a4 a5 a6 a7
 obtain ⟨_,a0,a1,a2,a3,a4,a5,a6,a7⟩:=G10.out
 go_wp2_with fail
 all_goals first | (exfalso;omega) | skip
 refine (WK _ (HT.out.1.next B10.out) (HT.out.2.below B10.out HT.out.2.pos)).mono ?_
 rintro o wz ⟨rfl,bz⟩
 have Bz:Hid (Bl w wz):=B10.out.trans (bz.mono B10.out.size)
 clear bz
 go_wp2
 go_ret
 exact ⟨rfl,Bz.out⟩
theorem pgr_plus_zero {s t tm:ByteArray}{z:Int}{A B x:Nat}{c:Bool}{kd:Int}{d:ByteArray}{q:Int}{u:Bool}{m:Nat}{e:Int}{r:Bool}(hk:kd ≠ 4) (hs:0<s.size) (hl:s.size≤140737488351232) (ht:t.size≤140737488351232) (hm:⟨#[45]⟩ ++ t=tm) (c0:(((s[0]'hs).toNat:Nat):Int)=43) (et:s.extract 1 s.size=t) {w:World}(hT:Tab w) (hg:ErrT w)
 (PA:∀ W,Tab W → Calls Tryz.prog 11 #[.string s,vI z,.pointer none] W fun o w'=>∃ v,o=.returned (.tuple #[vU (A:Int),v])∧ErV w' 0 cPrs s v∧Bl W w')
 (SC:∀ W,Cb 12 #[.string s] W (.tuple #[ptV c kd d q u (m:Int) e r,vI 0]))
 (SZ:∀ W,Cs 13 #[vI z] W (.bool true))
 (PB:∀ W,Tab W → Calls Tryz.prog 11 #[.string tm,vI z,.pointer none] W fun o w'=>∃ v,o=.returned (.tuple #[vU (B:Int),v])∧ErV w' 0 cPrs tm v∧Bl W w')
 (PC:∀ W,Tab W → Calls Tryz.prog 11 #[.string t,vI z,.pointer none] W fun o w'=>∃ v,o=.returned (.tuple #[vU (x:Int),v])∧ErV w' 0 cPrs t v∧Bl W w')
 (SG:∀ W,Cs 18 #[.bool true,vU (x:Int),vI z] W (vU (B:Int)))
 (MA:∀ W,Cs 16 #[vU (A:Int),vI z] W (vU (x:Int)))
 (MC:∀ W,Cs 16 #[vU (x:Int),vI z] W (vU (x:Int))) :
 Cb 4 #[.string s,vI z] w (.bool true):=by
 have HT:Hid (Tab w∧ErrT w):=⟨hT,hg⟩
 have WK:=fun W (h:Tab W) (h':ErrT W)=>works18 W h h'
 clear hT hg
 have k4:(kd == 4)=false:=beq_eq_false_iff_ne.mpr hk
 have s0:(0:Int)<(s.size:Int):=by omega
 have qB:((B:Int) == (B:Int))=true:=beq_self_eq_true _
 have qX:((x:Int) == (x:Int))=true:=beq_self_eq_true _
 have hsum:¬ 9223372036854775807<(⟨#[45]⟩:ByteArray).size+t.size:=by
  have:(⟨#[45]⟩:ByteArray).size=1:=rfl
  omega
 have i1:(1:Int)≤(s.size:Int):=by omega
 clear hk ht
 unfold ptV at *
 go_enter Tryz.func4,Tryz.ntmps4
 go_wp2_with fail
 all_goals first | (exfalso;omega) | skip
 refine (PA _ HT.out.1).mono ?_
 rintro o w1 ⟨v,rfl,ev,b1⟩
 have B1:Hid (Bl w w1):=b1
 have Ev1:Hid (ErV w1 0 cPrs s v):=ev
 clear b1 ev
 go_wp2_with fail
 refine (SC _).mono ?_
 rintro o w2 ⟨rfl,b2⟩
 have A2:Hid (Bl w1 (w2.alloc (.cells #[.bool c,vI kd,.string d,vI q,.bool u,vU (m:Int),vI e,.bool r] 43))):=b2.alloc b2.size _
 have B2:Hid (Bl w (w2.alloc (.cells #[.bool c,vI kd,.string d,vI q,.bool u,vU (m:Int),vI e,.bool r] 43))):=B1.out.trans (A2.out.mono B1.out.size)
 have Ev2:Hid (ErV (w2.alloc (.cells #[.bool c,vI kd,.string d,vI q,.bool u,vU (m:Int),vI e,.bool r] 43)) 0 cPrs s v):=Ev1.out.below A2.out (Nat.le_refl _)
 have G2:Hid (PtB (w2.alloc (.cells #[.bool c,vI kd,.string d,vI q,.bool u,vU (m:Int),vI e,.bool r] 43)) w2.heap.size c kd d q u (m:Int) e r):=PtB.new _ _ _ _ _ _ _ _ _ _
 clear b2 A2 B1 Ev1
 obtain ⟨_,a0,a1,a2,a3,a4,a5,a6,a7⟩:=G2.out
 go_wp2_with fail
 all_goals first | (exfalso;omega) | skip
 refine (SZ _).mono ?_
 rintro o ws ⟨rfl,es⟩
 subst es
 have NM:=num_erv Ev2.out (HT.out.2.below B2.out HT.out.2.pos)
 go_wp2_with fail
 all_goals first | (exfalso;omega) | skip
 refine NM.mono ?_
 rintro o w3 ⟨rfl,b3⟩
 clear NM
 have B3:Hid (Bl w w3):=B2.out.trans (b3.mono B2.out.size)
 have Ev3:Hid (ErV w3 0 cPrs s v):=Ev2.out.below b3 (Nat.le_refl _)
 have G3:Hid (PtB w3 w2.heap.size c kd d q u (m:Int) e r):=G2.out.step b3
 clear b3 B2 Ev2 G2
 clear a0 a1 a2 a3 a4 a5 a6 a7
 obtain ⟨_,a0,a1,a2,a3,a4,a5,a6,a7⟩:=G3.out
 go_wp2_with fail
 all_goals first | (exfalso;omega) | skip
 refine (PB _ (HT.out.1.next B3.out)).mono ?_
 rintro o w4 ⟨vb,rfl,evb,b4⟩
 have B4:Hid (Bl w w4):=B3.out.trans (b4.mono B3.out.size)
 have Ev4:Hid (ErV w4 0 cPrs s v):=Ev3.out.below b4 (Nat.le_refl _)
 have G4:Hid (PtB w4 w2.heap.size c kd d q u (m:Int) e r):=G3.out.step b4
 have Evb4:Hid (ErV w4 0 cPrs tm vb):=evb
 clear b4 evb B3 Ev3 G3
 clear a0 a1 a2 a3 a4 a5 a6 a7
 obtain ⟨_,a0,a1,a2,a3,a4,a5,a6,a7⟩:=G4.out
 go_wp2_with fail
 all_goals first | (exfalso;omega) | skip
 refine (PC _ (HT.out.1.next B4.out)).mono ?_
 rintro o w5 ⟨vc,rfl,evc,b5⟩
 have B5:Hid (Bl w w5):=B4.out.trans (b5.mono B4.out.size)
 have Ev5:Hid (ErV w5 0 cPrs s v):=Ev4.out.below b5 (Nat.le_refl _)
 have Evb5:Hid (ErV w5 0 cPrs tm vb):=Evb4.out.below b5 (Nat.le_refl _)
 have G5:Hid (PtB w5 w2.heap.size c kd d q u (m:Int) e r):=G4.out.step b5
 have Evc5:Hid (ErV w5 0 cPrs t vc):=evc
 clear b5 evc B4 Ev4 Evb4 G4
 clear a0 a1 a2 a3 a4 a5 a6 a7
 obtain ⟨_,a0,a1,a2,a3,a4,a5,a6,a7⟩:=G5.out
 have NM:=num_erv Ev5.out (HT.out.2.below B5.out HT.out.2.pos)
 go_wp2_with fail
 all_goals first | (exfalso;omega) | skip
 refine NM.mono ?_
 rintro o w6 ⟨rfl,b6⟩
 clear NM
 have B6:Hid (Bl w w6):=B5.out.trans (b6.mono B5.out.size)
 have Ev6:Hid (ErV w6 0 cPrs s v):=Ev5.out.below b6 (Nat.le_refl _)
 have Evb6:Hid (ErV w6 0 cPrs tm vb):=Evb5.out.below b6 (Nat.le_refl _)
 have Evc6:Hid (ErV w6 0 cPrs t vc):=Evc5.out.below b6 (Nat.le_refl _)
 have G6:Hid (PtB w6 w2.heap.size c kd d q u (m:Int) e r):=G5.out.step b6
 clear b6 B5 Ev5 Evb5 Evc5 G5
 clear a0 a1 a2 a3 a4 a5 a6 a7
 obtain ⟨_,a0,a1,a2,a3,a4,a5,a6,a7⟩:=G6.out
 go_wp2_with fail
 all_goals first | (exfalso;omega) | skip
 refine (SG _).mono ?_
 rintro o ws ⟨rfl,es⟩
 subst es
 go_wp2_with fail
 all_goals first | (exfalso;omega) | skip
 refine (MC _).mono ?_
 rintro o ws ⟨rfl,es⟩
 subst es
 go_wp2_with fail
 all_goals first | (exfalso;omega) | skip
 refine (MA _).mono ?_
 rintro o ws ⟨rfl,es⟩
 subst es
 have NM:=num_erv Evb6.out (HT.out.2.below B6.out HT.out.2.pos)
 go_wp2_with fail
 all_goals first | (exfalso;omega) | skip
 refine NM.mono ?_
 rintro o w7 ⟨rfl,b7⟩
 clear NM
 have B7:Hid (Bl w w7):=B6.out.trans (b7.mono B6.out.size)
 have Ev7:Hid (ErV w7 0 cPrs s v):=Ev6.out.below b7 (Nat.le_refl _)
 have Evb7:Hid (ErV w7 0 cPrs tm vb):=Evb6.out.below b7 (Nat.le_refl _)
 have Evc7:Hid (ErV w7 0 cPrs t vc):=Evc6.out.below b7 (Nat.le_refl _)
 have G7:Hid (PtB w7 w2.heap.size c kd d q u (m:Int) e r):=G6.out.step b7
 clear b7 B6 Ev6 Evb6 Evc6 G6
 clear a0 a1 a2 a3 a4 a5 a6 a7
 obtain ⟨_,a0,a1,a2,a3,a4,a5,a6,a7⟩:=G7.out
 have NM:=num_erv Ev7.out (HT.out.2.below B7.out HT.out.2.pos)
 go_wp2_with fail
 all_goals first | (exfalso;omega) | skip
 refine NM.mono ?_
 rintro o w8 ⟨rfl,b8⟩
 clear NM
 have B8:Hid (Bl w w8):=B7.out.trans (b8.mono B7.out.size)
 have Ev8:Hid (ErV w8 0 cPrs s v):=Ev7.out.below b8 (Nat.le_refl _)
 have Evb8:Hid (ErV w8 0 cPrs tm vb):=Evb7.out.below b8 (Nat.le_refl _)
 have Evc8:Hid (ErV w8 0 cPrs t vc):=Evc7.out.below b8 (Nat.le_refl _)
 have G8:Hid (PtB w8 w2.heap.size c kd d q u (m:Int) e r):=G7.out.step b8
 clear b8 B7 Ev7 Evb7 Evc7 G7
 clear a0 a1 a2 a3 a4 a5 a6 a7
 obtain ⟨_,a0,a1,a2,a3,a4,a5,a6,a7⟩:=G8.out
 have NM:=num_erv Evc8.out (HT.out.2.below B8.out HT.out.2.pos)
 go_wp2_with fail
 all_goals first | (exfalso;omega) | skip
 refine NM.mono ?_
 rintro o w9 ⟨rfl,b9⟩
 clear NM
 have B9:Hid (Bl w w9):=B8.out.trans (b9.mono B8.out.size)
 have Ev9:Hid (ErV w9 0 cPrs s v):=Ev8.out.below b9 (Nat.le_refl _)
 have Evb9:Hid (ErV w9 0 cPrs tm vb):=Evb8.out.below b9 (Nat.le_refl _)
 have Evc9:Hid (ErV w9 0 cPrs t vc):=Evc8.out.below b9 (Nat.le_refl _)
 have G9:Hid (PtB w9 w2.heap.size c kd d q u (m:Int) e r):=G8.out.step b9
 clear b9 B8 Ev8 Evb8 Evc8 G8
 clear a0 a1 a2 a3 a4 a5 a6 a7
 obtain ⟨_,a0,a1,a2,a3,a4,a5,a6,a7⟩:=G9.out
 have NM:=num_erv Ev9.out (HT.out.2.below B9.out HT.out.2.pos)
 go_wp2_with fail
 all_goals first | (exfalso;omega) | skip
 refine NM.mono ?_
 rintro o w10 ⟨rfl,b10⟩
 clear NM
 have B10:Hid (Bl w w10):=B9.out.trans (b10.mono B9.out.size)
 have Ev10:Hid (ErV w10 0 cPrs s v):=Ev9.out.below b10 (Nat.le_refl _)
 have Evb10:Hid (ErV w10 0 cPrs tm vb):=Evb9.out.below b10 (Nat.le_refl _)
 have Evc10:Hid (ErV w10 0 cPrs t vc):=Evc9.out.below b10 (Nat.le_refl _)
 have G10:Hid (PtB w10 w2.heap.size c kd d q u (m:Int) e r):=G9.out.step b10
 clear b10 B9 Ev9 Evb9 Evc9 G9
 clear a0 a1 a2 a3 a4 a5 a6 a7
 obtain ⟨_,a0,a1,a2,a3,a4,a5,a6,a7⟩:=G10.out
 go_wp2_with fail
 all_goals first | (exfalso;omega) | skip
 refine (WK _ (HT.out.1.next B10.out) (HT.out.2.below B10.out HT.out.2.pos)).mono ?_
 rintro o wz ⟨rfl,bz⟩
 have Bz:Hid (Bl w wz):=B10.out.trans (bz.mono B10.out.size)
 clear bz
 go_wp2
 go_ret
 exact ⟨rfl,Bz.out⟩
theorem pgr_plus_four {s t tm:ByteArray}{z:Int}{A B n:Nat}{c:Bool}{kd:Int}{d:ByteArray}{q:Int}{u:Bool}{m:Nat}{e:Int}{r:Bool}(hk:kd ≠ 4) (hs:0<s.size) (hl:s.size≤140737488351232) (ht:t.size≤140737488351232) (hm:⟨#[45]⟩ ++ t=tm) (c0:(((s[0]'hs).toNat:Nat):Int)=43) (et:s.extract 1 s.size=t) {w:World}(hT:Tab w) (hg:ErrT w)
 (PA:∀ W,Tab W → Calls Tryz.prog 11 #[.string s,vI z,.pointer none] W fun o w'=>∃ v,o=.returned (.tuple #[vU (A:Int),v])∧ErV w' 4 cPrs s v∧Bl W w')
 (SC:∀ W,Cb 12 #[.string s] W (.tuple #[ptV c kd d q u (m:Int) e r,vI 0]))
 (SZ:∀ W,Cs 13 #[vI z] W (.bool true))
 (PB:∀ W,Tab W → Calls Tryz.prog 11 #[.string tm,vI z,.pointer none] W fun o w'=>∃ v,o=.returned (.tuple #[vU (B:Int),v])∧ErV w' 4 cPrs tm v∧Bl W w')
 (PC:∀ W,Tab W → Calls Tryz.prog 11 #[.string t,vI z,.pointer none] W fun o w'=>∃ v,o=.returned (.tuple #[vU (n:Int),v])∧ErV w' 4 cPrs t v∧Bl W w')
 (SG:∀ W,Cs 18 #[.bool true,vU (n:Int),vI z] W (vU (B:Int)))
 (IN:∀ W,Cs 17 #[vI z] W (vU (n:Int)))
 (MA:∀ W,Cs 16 #[vU (A:Int),vI z] W (vU (n:Int)))
 (MC:∀ W,Cs 16 #[vU (n:Int),vI z] W (vU (n:Int))) :
 Cb 4 #[.string s,vI z] w (.bool true):=by
 have HT:Hid (Tab w∧ErrT w):=⟨hT,hg⟩
 have WK:=fun W (h:Tab W) (h':ErrT W)=>works18 W h h'
 clear hT hg
 have k4:(kd == 4)=false:=beq_eq_false_iff_ne.mpr hk
 have s0:(0:Int)<(s.size:Int):=by omega
 have qB:((B:Int) == (B:Int))=true:=beq_self_eq_true _
 have qX:((n:Int) == (n:Int))=true:=beq_self_eq_true _
 have hsum:¬ 9223372036854775807<(⟨#[45]⟩:ByteArray).size+t.size:=by
  have:(⟨#[45]⟩:ByteArray).size=1:=rfl
  omega
 have i1:(1:Int)≤(s.size:Int):=by omega
 clear hk ht
 unfold ptV at *
 go_enter Tryz.func4,Tryz.ntmps4
 go_wp2_with fail
 all_goals first | (exfalso;omega) | skip
 refine (PA _ HT.out.1).mono ?_
 rintro o w1 ⟨v,rfl,ev,b1⟩
 have B1:Hid (Bl w w1):=b1
 have Ev1:Hid (ErV w1 4 cPrs s v):=ev
 clear b1 ev
 go_wp2_with fail
 refine (SC _).mono ?_
 rintro o w2 ⟨rfl,b2⟩
 have A2:Hid (Bl w1 (w2.alloc (.cells #[.bool c,vI kd,.string d,vI q,.bool u,vU (m:Int),vI e,.bool r] 43))):=b2.alloc b2.size _
 have B2:Hid (Bl w (w2.alloc (.cells #[.bool c,vI kd,.string d,vI q,.bool u,vU (m:Int),vI e,.bool r] 43))):=B1.out.trans (A2.out.mono B1.out.size)
 have Ev2:Hid (ErV (w2.alloc (.cells #[.bool c,vI kd,.string d,vI q,.bool u,vU (m:Int),vI e,.bool r] 43)) 4 cPrs s v):=Ev1.out.below A2.out (Nat.le_refl _)
 have G2:Hid (PtB (w2.alloc (.cells #[.bool c,vI kd,.string d,vI q,.bool u,vU (m:Int),vI e,.bool r] 43)) w2.heap.size c kd d q u (m:Int) e r):=PtB.new _ _ _ _ _ _ _ _ _ _
 clear b2 A2 B1 Ev1
 obtain ⟨_,a0,a1,a2,a3,a4,a5,a6,a7⟩:=G2.out
 go_wp2_with fail
 all_goals first | (exfalso;omega) | skip
 refine (SZ _).mono ?_
 rintro o ws ⟨rfl,es⟩
 subst es
 have NM:=num_erv Ev2.out (HT.out.2.below B2.out HT.out.2.pos)
 go_wp2_with fail
 all_goals first | (exfalso;omega) | skip
 refine NM.mono ?_
 rintro o w3 ⟨rfl,b3⟩
 clear NM
 have B3:Hid (Bl w w3):=B2.out.trans (b3.mono B2.out.size)
 have Ev3:Hid (ErV w3 4 cPrs s v):=Ev2.out.below b3 (Nat.le_refl _)
 have G3:Hid (PtB w3 w2.heap.size c kd d q u (m:Int) e r):=G2.out.step b3
 clear b3 B2 Ev2 G2
 clear a0 a1 a2 a3 a4 a5 a6 a7
 obtain ⟨_,a0,a1,a2,a3,a4,a5,a6,a7⟩:=G3.out
 go_wp2_with fail
 all_goals first | (exfalso;omega) | skip
 refine (PB _ (HT.out.1.next B3.out)).mono ?_
 rintro o w4 ⟨vb,rfl,evb,b4⟩
 have B4:Hid (Bl w w4):=B3.out.trans (b4.mono B3.out.size)
 have Ev4:Hid (ErV w4 4 cPrs s v):=Ev3.out.below b4 (Nat.le_refl _)
 have G4:Hid (PtB w4 w2.heap.size c kd d q u (m:Int) e r):=G3.out.step b4
 have Evb4:Hid (ErV w4 4 cPrs tm vb):=evb
 clear b4 evb B3 Ev3 G3
 clear a0 a1 a2 a3 a4 a5 a6 a7
 obtain ⟨_,a0,a1,a2,a3,a4,a5,a6,a7⟩:=G4.out
 go_wp2_with fail
 all_goals first | (exfalso;omega) | skip
 refine (PC _ (HT.out.1.next B4.out)).mono ?_
 rintro o w5 ⟨vc,rfl,evc,b5⟩
 have B5:Hid (Bl w w5):=B4.out.trans (b5.mono B4.out.size)
 have Ev5:Hid (ErV w5 4 cPrs s v):=Ev4.out.below b5 (Nat.le_refl _)
 have Evb5:Hid (ErV w5 4 cPrs tm vb):=Evb4.out.below b5 (Nat.le_refl _)
 have G5:Hid (PtB w5 w2.heap.size c kd d q u (m:Int) e r):=G4.out.step b5
 have Evc5:Hid (ErV w5 4 cPrs t vc):=evc
 clear b5 evc B4 Ev4 Evb4 G4
 clear a0 a1 a2 a3 a4 a5 a6 a7
 obtain ⟨_,a0,a1,a2,a3,a4,a5,a6,a7⟩:=G5.out
 have NM:=num_erv Ev5.out (HT.out.2.below B5.out HT.out.2.pos)
 go_wp2_with fail
 all_goals first | (exfalso;omega) | skip
 refine NM.mono ?_
 rintro o w6 ⟨rfl,b6⟩
 clear NM
 have B6:Hid (Bl w w6):=B5.out.trans (b6.mono B5.out.size)
 have Ev6:Hid (ErV w6 4 cPrs s v):=Ev5.out.below b6 (Nat.le_refl _)
 have Evb6:Hid (ErV w6 4 cPrs tm vb):=Evb5.out.below b6 (Nat.le_refl _)
 have Evc6:Hid (ErV w6 4 cPrs t vc):=Evc5.out.below b6 (Nat.le_refl _)
 have G6:Hid (PtB w6 w2.heap.size c kd d q u (m:Int) e r):=G5.out.step b6
 clear b6 B5 Ev5 Evb5 Evc5 G5
 clear a0 a1 a2 a3 a4 a5 a6 a7
 obtain ⟨_,a0,a1,a2,a3,a4,a5,a6,a7⟩:=G6.out
 go_wp2_with fail
 all_goals first | (exfalso;omega) | skip
 refine (MA _).mono ?_
 rintro o ws ⟨rfl,es⟩
 subst es
 go_wp2_with fail
 all_goals first | (exfalso;omega) | skip
 refine (IN _).mono ?_
 rintro o ws ⟨rfl,es⟩
 subst es
 go_wp2_with fail
 all_goals first | (exfalso;omega) | skip
 refine (SG _).mono ?_
 rintro o ws ⟨rfl,es⟩
 subst es
 go_wp2_with fail
 all_goals first | (exfalso;omega) | skip
 refine (MC _).mono ?_
 rintro o ws ⟨rfl,es⟩
 subst es
 go_wp2_with fail
 all_goals first | (exfalso;omega) | skip
 refine (MA _).mono ?_
 rintro o ws ⟨rfl,es⟩
 subst es
 have NM:=num_erv Evb6.out (HT.out.2.below B6.out HT.out.2.pos)
 go_wp2_with fail
 all_goals first | (exfalso;omega) | skip
 refine NM.mono ?_
 rintro o w7 ⟨rfl,b7⟩
 clear NM
 have B7:Hid (Bl w w7):=B6.out.trans (b7.mono B6.out.size)
 have Ev7:Hid (ErV w7 4 cPrs s v):=Ev6.out.below b7 (Nat.le_refl _)
 have Evb7:Hid (ErV w7 4 cPrs tm vb):=Evb6.out.below b7 (Nat.le_refl _)
 have Evc7:Hid (ErV w7 4 cPrs t vc):=Evc6.out.below b7 (Nat.le_refl _)
 have G7:Hid (PtB w7 w2.heap.size c kd d q u (m:Int) e r):=G6.out.step b7
 clear b7 B6 Ev6 Evb6 Evc6 G6
 clear a0 a1 a2 a3 a4 a5 a6 a7
 obtain ⟨_,a0,a1,a2,a3,a4,a5,a6,a7⟩:=G7.out
 have NM:=num_erv Ev7.out (HT.out.2.below B7.out HT.out.2.pos)
 go_wp2_with fail
 all_goals first | (exfalso;omega) | skip
 refine NM.mono ?_
 rintro o w8 ⟨rfl,b8⟩
 clear NM
 have B8:Hid (Bl w w8):=B7.out.trans (b8.mono B7.out.size)
 have Ev8:Hid (ErV w8 4 cPrs s v):=Ev7.out.below b8 (Nat.le_refl _)
 have Evb8:Hid (ErV w8 4 cPrs tm vb):=Evb7.out.below b8 (Nat.le_refl _)
 have Evc8:Hid (ErV w8 4 cPrs t vc):=Evc7.out.below b8 (Nat.le_refl _)
 have G8:Hid (PtB w8 w2.heap.size c kd d q u (m:Int) e r):=G7.out.step b8
 clear b8 B7 Ev7 Evb7 Evc7 G7
 clear a0 a1 a2 a3 a4 a5 a6 a7
 obtain ⟨_,a0,a1,a2,a3,a4,a5,a6,a7⟩:=G8.out
 have NM:=num_erv Evc8.out (HT.out.2.below B8.out HT.out.2.pos)
 go_wp2_with fail
 all_goals first | (exfalso;omega) | skip
 refine NM.mono ?_
 rintro o w9 ⟨rfl,b9⟩
 clear NM
 have B9:Hid (Bl w w9):=B8.out.trans (b9.mono B8.out.size)
 have Ev9:Hid (ErV w9 4 cPrs s v):=Ev8.out.below b9 (Nat.le_refl _)
 have Evb9:Hid (ErV w9 4 cPrs tm vb):=Evb8.out.below b9 (Nat.le_refl _)
 have Evc9:Hid (ErV w9 4 cPrs t vc):=Evc8.out.below b9 (Nat.le_refl _)
 have G9:Hid (PtB w9 w2.heap.size c kd d q u (m:Int) e r):=G8.out.step b9
 clear b9 B8 Ev8 Evb8 Evc8 G8
 clear a0 a1 a2 a3 a4 a5 a6 a7
 obtain ⟨_,a0,a1,a2,a3,a4,a5,a6,a7⟩:=G9.out
 have NM:=num_erv Ev9.out (HT.out.2.below B9.out HT.out.2.pos)
 go_wp2_with fail
 all_goals first | (exfalso;omega) | skip
 refine NM.mono ?_
 rintro o w10 ⟨rfl,b10⟩
 clear NM
 have B10:Hid (Bl w w10):=B9.out.trans (b10.mono B9.out.size)
 have Ev10:Hid (ErV w10 4 cPrs s v):=Ev9.out.below b10 (Nat.le_refl _)
 have Evb10:Hid (ErV w10 4 cPrs tm vb):=Evb9.out.below b10 (Nat.le_refl _)
 have Evc10:Hid (ErV w10 4 cPrs t vc):=Evc9.out.below b10 (Nat.le_refl _)
 have G10:Hid (PtB w10 w2.heap.size c kd d q u (m:Int) e r):=G9.out.step b10
 clear b10 B9 Ev9 Evb9 Evc9 G9
 clear a0 a1 a2 a3 a4 a5 a6 a7
 obtain ⟨_,a0,a1,a2,a3,a4,a5,a6,a7⟩:=G10.out
 go_wp2_with fail
 all_goals first | (exfalso;omega) | skip
 refine (WK _ (HT.out.1.next B10.out) (HT.out.2.below B10.out HT.out.2.pos)).mono ?_
 rintro o wz ⟨rfl,bz⟩
 have Bz:Hid (Bl w wz):=B10.out.trans (bz.mono B10.out.size)
 clear bz
 go_wp2
 go_ret
 exact ⟨rfl,Bz.out⟩
theorem pgr_bare_zero {s t tm:ByteArray}{z:Int}{A B x:Nat}{c:Bool}{kd:Int}{d:ByteArray}{q:Int}{u:Bool}{m:Nat}{e:Int}{r:Bool}(hk:kd ≠ 4) (hs:0<s.size) (hl:s.size≤140737488351232) (ht:t.size≤140737488351232) (hm:⟨#[45]⟩ ++ t=tm) (c0:(((s[0]'hs).toNat:Nat):Int) ≠ 45) (c1:(((s[0]'hs).toNat:Nat):Int) ≠ 43) (et:s=t) {w:World}(hT:Tab w) (hg:ErrT w)
 (PA:∀ W,Tab W → Calls Tryz.prog 11 #[.string s,vI z,.pointer none] W fun o w'=>∃ v,o=.returned (.tuple #[vU (A:Int),v])∧ErV w' 0 cPrs s v∧Bl W w')
 (SC:∀ W,Cb 12 #[.string s] W (.tuple #[ptV c kd d q u (m:Int) e r,vI 0]))
 (SZ:∀ W,Cs 13 #[vI z] W (.bool true))
 (PB:∀ W,Tab W → Calls Tryz.prog 11 #[.string tm,vI z,.pointer none] W fun o w'=>∃ v,o=.returned (.tuple #[vU (B:Int),v])∧ErV w' 0 cPrs tm v∧Bl W w')
 (PC:∀ W,Tab W → Calls Tryz.prog 11 #[.string t,vI z,.pointer none] W fun o w'=>∃ v,o=.returned (.tuple #[vU (x:Int),v])∧ErV w' 0 cPrs t v∧Bl W w')
 (SG:∀ W,Cs 18 #[.bool true,vU (x:Int),vI z] W (vU (B:Int)))
 (MA:∀ W,Cs 16 #[vU (A:Int),vI z] W (vU (x:Int)))
 (MC:∀ W,Cs 16 #[vU (x:Int),vI z] W (vU (x:Int))) :
 Cb 4 #[.string s,vI z] w (.bool true):=by
 have HT:Hid (Tab w∧ErrT w):=⟨hT,hg⟩
 have WK:=fun W (h:Tab W) (h':ErrT W)=>works18 W h h'
 clear hT hg
 have k4:(kd == 4)=false:=beq_eq_false_iff_ne.mpr hk
 have s0:(0:Int)<(s.size:Int):=by omega
 have qB:((B:Int) == (B:Int))=true:=beq_self_eq_true _
 have qX:((x:Int) == (x:Int))=true:=beq_self_eq_true _
 have hsum:¬ 9223372036854775807<(⟨#[45]⟩:ByteArray).size+t.size:=by
  have:(⟨#[45]⟩:ByteArray).size=1:=rfl
  omega
 subst et
 have e0:((((s[0]'hs).toNat:Nat):Int) == 45)=false:=beq_eq_false_iff_ne.mpr c0
 have e1:((((s[0]'hs).toNat:Nat):Int) == 43)=false:=beq_eq_false_iff_ne.mpr c1
 clear c0 c1
 clear hk ht
 unfold ptV at *
 go_enter Tryz.func4,Tryz.ntmps4
 go_wp2_with fail
 all_goals first | (exfalso;omega) | skip
 refine (PA _ HT.out.1).mono ?_
 rintro o w1 ⟨v,rfl,ev,b1⟩
 have B1:Hid (Bl w w1):=b1
 have Ev1:Hid (ErV w1 0 cPrs s v):=ev
 clear b1 ev
 go_wp2_with fail
 refine (SC _).mono ?_
 rintro o w2 ⟨rfl,b2⟩
 have A2:Hid (Bl w1 (w2.alloc (.cells #[.bool c,vI kd,.string d,vI q,.bool u,vU (m:Int),vI e,.bool r] 43))):=b2.alloc b2.size _
 have B2:Hid (Bl w (w2.alloc (.cells #[.bool c,vI kd,.string d,vI q,.bool u,vU (m:Int),vI e,.bool r] 43))):=B1.out.trans (A2.out.mono B1.out.size)
 have Ev2:Hid (ErV (w2.alloc (.cells #[.bool c,vI kd,.string d,vI q,.bool u,vU (m:Int),vI e,.bool r] 43)) 0 cPrs s v):=Ev1.out.below A2.out (Nat.le_refl _)
 have G2:Hid (PtB (w2.alloc (.cells #[.bool c,vI kd,.string d,vI q,.bool u,vU (m:Int),vI e,.bool r] 43)) w2.heap.size c kd d q u (m:Int) e r):=PtB.new _ _ _ _ _ _ _ _ _ _
 clear b2 A2 B1 Ev1
 obtain ⟨_,a0,a1,a2,a3,a4,a5,a6,a7⟩:=G2.out
 go_wp2_with fail
 all_goals first | (exfalso;omega) | skip
 refine (SZ _).mono ?_
 rintro o ws ⟨rfl,es⟩
 subst es
 have NM:=num_erv Ev2.out (HT.out.2.below B2.out HT.out.2.pos)
 go_wp2_with fail
 all_goals first | (exfalso;omega) | skip
 refine NM.mono ?_
 rintro o w3 ⟨rfl,b3⟩
 clear NM
 have B3:Hid (Bl w w3):=B2.out.trans (b3.mono B2.out.size)
 have Ev3:Hid (ErV w3 0 cPrs s v):=Ev2.out.below b3 (Nat.le_refl _)
 have G3:Hid (PtB w3 w2.heap.size c kd d q u (m:Int) e r):=G2.out.step b3
 clear b3 B2 Ev2 G2
 clear a0 a1 a2 a3 a4 a5 a6 a7
 obtain ⟨_,a0,a1,a2,a3,a4,a5,a6,a7⟩:=G3.out
 go_wp2_with fail
 all_goals first | (exfalso;omega) | skip
 refine (PB _ (HT.out.1.next B3.out)).mono ?_
 rintro o w4 ⟨vb,rfl,evb,b4⟩
 have B4:Hid (Bl w w4):=B3.out.trans (b4.mono B3.out.size)
 have Ev4:Hid (ErV w4 0 cPrs s v):=Ev3.out.below b4 (Nat.le_refl _)
 have G4:Hid (PtB w4 w2.heap.size c kd d q u (m:Int) e r):=G3.out.step b4
 have Evb4:Hid (ErV w4 0 cPrs tm vb):=evb
 clear b4 evb B3 Ev3 G3
 clear a0 a1 a2 a3 a4 a5 a6 a7
 obtain ⟨_,a0,a1,a2,a3,a4,a5,a6,a7⟩:=G4.out
 go_wp2_with fail
 all_goals first | (exfalso;omega) | skip
 refine (PC _ (HT.out.1.next B4.out)).mono ?_
 rintro o w5 ⟨vc,rfl,evc,b5⟩
 have B5:Hid (Bl w w5):=B4.out.trans (b5.mono B4.out.size)
 have Ev5:Hid (ErV w5 0 cPrs s v):=Ev4.out.below b5 (Nat.le_refl _)
 have Evb5:Hid (ErV w5 0 cPrs tm vb):=Evb4.out.below b5 (Nat.le_refl _)
 have G5:Hid (PtB w5 w2.heap.size c kd d q u (m:Int) e r):=G4.out.step b5
 have Evc5:Hid (ErV w5 0 cPrs s vc):=evc
 clear b5 evc B4 Ev4 Evb4 G4
 clear a0 a1 a2 a3 a4 a5 a6 a7
 obtain ⟨_,a0,a1,a2,a3,a4,a5,a6,a7⟩:=G5.out
 have NM:=num_erv Ev5.out (HT.out.2.below B5.out HT.out.2.pos)
 go_wp2_with fail
 all_goals first | (exfalso;omega) | skip
 refine NM.mono ?_
 rintro o w6 ⟨rfl,b6⟩
 clear NM
 have B6:Hid (Bl w w6):=B5.out.trans (b6.mono B5.out.size)
 have Ev6:Hid (ErV w6 0 cPrs s v):=Ev5.out.below b6 (Nat.le_refl _)
 have Evb6:Hid (ErV w6 0 cPrs tm vb):=Evb5.out.below b6 (Nat.le_refl _)
 have Evc6:Hid (ErV w6 0 cPrs s vc):=Evc5.out.below b6 (Nat.le_refl _)
 have G6:Hid (PtB w6 w2.heap.size c kd d q u (m:Int) e r):=G5.out.step b6
 clear b6 B5 Ev5 Evb5 Evc5 G5
 clear a0 a1 a2 a3 a4 a5 a6 a7
 obtain ⟨_,a0,a1,a2,a3,a4,a5,a6,a7⟩:=G6.out
 go_wp2_with fail
 all_goals first | (exfalso;omega) | skip
 refine (SG _).mono ?_
 rintro o ws ⟨rfl,es⟩
 subst es
 go_wp2_with fail
 all_goals first | (exfalso;omega) | skip
 refine (MC _).mono ?_
 rintro o ws ⟨rfl,es⟩
 subst es
 go_wp2_with fail
 all_goals first | (exfalso;omega) | skip
 refine (MA _).mono ?_
 rintro o ws ⟨rfl,es⟩
 subst es
 have NM:=num_erv Evb6.out (HT.out.2.below B6.out HT.out.2.pos)
 go_wp2_with fail
 all_goals first | (exfalso;omega) | skip
 refine NM.mono ?_
 rintro o w7 ⟨rfl,b7⟩
 clear NM
 have B7:Hid (Bl w w7):=B6.out.trans (b7.mono B6.out.size)
 have Ev7:Hid (ErV w7 0 cPrs s v):=Ev6.out.below b7 (Nat.le_refl _)
 have Evb7:Hid (ErV w7 0 cPrs tm vb):=Evb6.out.below b7 (Nat.le_refl _)
 have Evc7:Hid (ErV w7 0 cPrs s vc):=Evc6.out.below b7 (Nat.le_refl _)
 have G7:Hid (PtB w7 w2.heap.size c kd d q u (m:Int) e r):=G6.out.step b7
 clear b7 B6 Ev6 Evb6 Evc6 G6
 clear a0 a1 a2 a3 a4 a5 a6 a7
 obtain ⟨_,a0,a1,a2,a3,a4,a5,a6,a7⟩:=G7.out
 have NM:=num_erv Ev7.out (HT.out.2.below B7.out HT.out.2.pos)
 go_wp2_with fail
 all_goals first | (exfalso;omega) | skip
 refine NM.mono ?_
 rintro o w8 ⟨rfl,b8⟩
 clear NM
 have B8:Hid (Bl w w8):=B7.out.trans (b8.mono B7.out.size)
 have Ev8:Hid (ErV w8 0 cPrs s v):=Ev7.out.below b8 (Nat.le_refl _)
 have Evb8:Hid (ErV w8 0 cPrs tm vb):=Evb7.out.below b8 (Nat.le_refl _)
 have Evc8:Hid (ErV w8 0 cPrs s vc):=Evc7.out.below b8 (Nat.le_refl _)
 have G8:Hid (PtB w8 w2.heap.size c kd d q u (m:Int) e r):=G7.out.step b8
 clear b8 B7 Ev7 Evb7 Evc7 G7
 clear a0 a1 a2 a3 a4 a5 a6 a7
 obtain ⟨_,a0,a1,a2,a3,a4,a5,a6,a7⟩:=G8.out
 have NM:=num_erv Evc8.out (HT.out.2.below B8.out HT.out.2.pos)
 go_wp2_with fail
 all_goals first | (exfalso;omega) | skip
 refine NM.mono ?_
 rintro o w9 ⟨rfl,b9⟩
 clear NM
 have B9:Hid (Bl w w9):=B8.out.trans (b9.mono B8.out.size)
 have Ev9:Hid (ErV w9 0 cPrs s v):=Ev8.out.below b9 (Nat.le_refl _)
 have Evb9:Hid (ErV w9 0 cPrs tm vb):=Evb8.out.below b9 (Nat.le_refl _)
 have Evc9:Hid (ErV w9 0 cPrs s vc):=Evc8.out.below b9 (Nat.le_refl _)
 have G9:Hid (PtB w9 w2.heap.size c kd d q u (m:Int) e r):=G8.out.step b9
 clear b9 B8 Ev8 Evb8 Evc8 G8
 clear a0 a1 a2 a3 a4 a5 a6 a7
 obtain ⟨_,a0,a1,a2,a3,a4,a5,a6,a7⟩:=G9.out
 have NM:=num_erv Ev9.out (HT.out.2.below B9.out HT.out.2.pos)
 go_wp2_with fail
 all_goals first | (exfalso;omega) | skip
 refine NM.mono ?_
 rintro o w10 ⟨rfl,b10⟩
 clear NM
 have B10:Hid (Bl w w10):=B9.out.trans (b10.mono B9.out.size)
 have Ev10:Hid (ErV w10 0 cPrs s v):=Ev9.out.below b10 (Nat.le_refl _)
 have Evb10:Hid (ErV w10 0 cPrs tm vb):=Evb9.out.below b10 (Nat.le_refl _)
 have Evc10:Hid (ErV w10 0 cPrs s vc):=Evc9.out.below b10 (Nat.le_refl _)
 have G10:Hid (PtB w10 w2.heap.size c kd d q u (m:Int) e r):=G9.out.step b10
 clear b10 B9 Ev9 Evb9 Evc9 G9
 clear a0 a1 a2 a3 a4 a5 a6 a7
 obtain ⟨_,a0,a1,a2,a3,a4,a5,a6,a7⟩:=G10.out
 go_wp2_with fail
 all_goals first | (exfalso;omega) | skip
 refine (WK _ (HT.out.1.next B10.out) (HT.out.2.below B10.out HT.out.2.pos)).mono ?_
 rintro o wz ⟨rfl,bz⟩
 have Bz:Hid (Bl w wz):=B10.out.trans (bz.mono B10.out.size)
 clear bz
 go_wp2
 go_ret
 exact ⟨rfl,Bz.out⟩
theorem pgr_bare_four {s t tm:ByteArray}{z:Int}{A B n:Nat}{c:Bool}{kd:Int}{d:ByteArray}{q:Int}{u:Bool}{m:Nat}{e:Int}{r:Bool}(hk:kd ≠ 4) (hs:0<s.size) (hl:s.size≤140737488351232) (ht:t.size≤140737488351232) (hm:⟨#[45]⟩ ++ t=tm) (c0:(((s[0]'hs).toNat:Nat):Int) ≠ 45) (c1:(((s[0]'hs).toNat:Nat):Int) ≠ 43) (et:s=t) {w:World}(hT:Tab w) (hg:ErrT w)
 (PA:∀ W,Tab W → Calls Tryz.prog 11 #[.string s,vI z,.pointer none] W fun o w'=>∃ v,o=.returned (.tuple #[vU (A:Int),v])∧ErV w' 4 cPrs s v∧Bl W w')
 (SC:∀ W,Cb 12 #[.string s] W (.tuple #[ptV c kd d q u (m:Int) e r,vI 0]))
 (SZ:∀ W,Cs 13 #[vI z] W (.bool true))
 (PB:∀ W,Tab W → Calls Tryz.prog 11 #[.string tm,vI z,.pointer none] W fun o w'=>∃ v,o=.returned (.tuple #[vU (B:Int),v])∧ErV w' 4 cPrs tm v∧Bl W w')
 (PC:∀ W,Tab W → Calls Tryz.prog 11 #[.string t,vI z,.pointer none] W fun o w'=>∃ v,o=.returned (.tuple #[vU (n:Int),v])∧ErV w' 4 cPrs t v∧Bl W w')
 (SG:∀ W,Cs 18 #[.bool true,vU (n:Int),vI z] W (vU (B:Int)))
 (IN:∀ W,Cs 17 #[vI z] W (vU (n:Int)))
 (MA:∀ W,Cs 16 #[vU (A:Int),vI z] W (vU (n:Int)))
 (MC:∀ W,Cs 16 #[vU (n:Int),vI z] W (vU (n:Int))) :
 Cb 4 #[.string s,vI z] w (.bool true):=by
 have HT:Hid (Tab w∧ErrT w):=⟨hT,hg⟩
 have WK:=fun W (h:Tab W) (h':ErrT W)=>works18 W h h'
 clear hT hg
 have k4:(kd == 4)=false:=beq_eq_false_iff_ne.mpr hk
 have s0:(0:Int)<(s.size:Int):=by omega
 have qB:((B:Int) == (B:Int))=true:=beq_self_eq_true _
 have qX:((n:Int) == (n:Int))=true:=beq_self_eq_true _
 have hsum:¬ 9223372036854775807<(⟨#[45]⟩:ByteArray).size+t.size:=by
  have:(⟨#[45]⟩:ByteArray).size=1:=rfl
  omega
 subst et
 have e0:((((s[0]'hs).toNat:Nat):Int) == 45)=false:=beq_eq_false_iff_ne.mpr c0
 have e1:((((s[0]'hs).toNat:Nat):Int) == 43)=false:=beq_eq_false_iff_ne.mpr c1
 clear c0 c1
 clear hk ht
 unfold ptV at *
 go_enter Tryz.func4,Tryz.ntmps4
 go_wp2_with fail
 all_goals first | (exfalso;omega) | skip
 refine (PA _ HT.out.1).mono ?_
 rintro o w1 ⟨v,rfl,ev,b1⟩
 have B1:Hid (Bl w w1):=b1
 have Ev1:Hid (ErV w1 4 cPrs s v):=ev
 clear b1 ev
 go_wp2_with fail
 refine (SC _).mono ?_
 rintro o w2 ⟨rfl,b2⟩
 have A2:Hid (Bl w1 (w2.alloc (.cells #[.bool c,vI kd,.string d,vI q,.bool u,vU (m:Int),vI e,.bool r] 43))):=b2.alloc b2.size _
 have B2:Hid (Bl w (w2.alloc (.cells #[.bool c,vI kd,.string d,vI q,.bool u,vU (m:Int),vI e,.bool r] 43))):=B1.out.trans (A2.out.mono B1.out.size)
 have Ev2:Hid (ErV (w2.alloc (.cells #[.bool c,vI kd,.string d,vI q,.bool u,vU (m:Int),vI e,.bool r] 43)) 4 cPrs s v):=Ev1.out.below A2.out (Nat.le_refl _)
 have G2:Hid (PtB (w2.alloc (.cells #[.bool c,vI kd,.string d,vI q,.bool u,vU (m:Int),vI e,.bool r] 43)) w2.heap.size c kd d q u (m:Int) e r):=PtB.new _ _ _ _ _ _ _ _ _ _
 clear b2 A2 B1 Ev1
 obtain ⟨_,a0,a1,a2,a3,a4,a5,a6,a7⟩:=G2.out
 go_wp2_with fail
 all_goals first | (exfalso;omega) | skip
 refine (SZ _).mono ?_
 rintro o ws ⟨rfl,es⟩
 subst es
 have NM:=num_erv Ev2.out (HT.out.2.below B2.out HT.out.2.pos)
 go_wp2_with fail
 all_goals first | (exfalso;omega) | skip
 refine NM.mono ?_
 rintro o w3 ⟨rfl,b3⟩
 clear NM
 have B3:Hid (Bl w w3):=B2.out.trans (b3.mono B2.out.size)
 have Ev3:Hid (ErV w3 4 cPrs s v):=Ev2.out.below b3 (Nat.le_refl _)
 have G3:Hid (PtB w3 w2.heap.size c kd d q u (m:Int) e r):=G2.out.step b3
 clear b3 B2 Ev2 G2
 clear a0 a1 a2 a3 a4 a5 a6 a7
 obtain ⟨_,a0,a1,a2,a3,a4,a5,a6,a7⟩:=G3.out
 go_wp2_with fail
 all_goals first | (exfalso;omega) | skip
 refine (PB _ (HT.out.1.next B3.out)).mono ?_
 rintro o w4 ⟨vb,rfl,evb,b4⟩
 have B4:Hid (Bl w w4):=B3.out.trans (b4.mono B3.out.size)
 have Ev4:Hid (ErV w4 4 cPrs s v):=Ev3.out.below b4 (Nat.le_refl _)
 have G4:Hid (PtB w4 w2.heap.size c kd d q u (m:Int) e r):=G3.out.step b4
 have Evb4:Hid (ErV w4 4 cPrs tm vb):=evb
 clear b4 evb B3 Ev3 G3
 clear a0 a1 a2 a3 a4 a5 a6 a7
 obtain ⟨_,a0,a1,a2,a3,a4,a5,a6,a7⟩:=G4.out
 go_wp2_with fail
 all_goals first | (exfalso;omega) | skip
 refine (PC _ (HT.out.1.next B4.out)).mono ?_
 rintro o w5 ⟨vc,rfl,evc,b5⟩
 have B5:Hid (Bl w w5):=B4.out.trans (b5.mono B4.out.size)
 have Ev5:Hid (ErV w5 4 cPrs s v):=Ev4.out.below b5 (Nat.le_refl _)
 have Evb5:Hid (ErV w5 4 cPrs tm vb):=Evb4.out.below b5 (Nat.le_refl _)
 have G5:Hid (PtB w5 w2.heap.size c kd d q u (m:Int) e r):=G4.out.step b5
 have Evc5:Hid (ErV w5 4 cPrs s vc):=evc
 clear b5 evc B4 Ev4 Evb4 G4
 clear a0 a1 a2 a3 a4 a5 a6 a7
 obtain ⟨_,a0,a1,a2,a3,a4,a5,a6,a7⟩:=G5.out
 have NM:=num_erv Ev5.out (HT.out.2.below B5.out HT.out.2.pos)
 go_wp2_with fail
 all_goals first | (exfalso;omega) | skip
 refine NM.mono ?_
 rintro o w6 ⟨rfl,b6⟩
 clear NM
 have B6:Hid (Bl w w6):=B5.out.trans (b6.mono B5.out.size)
 have Ev6:Hid (ErV w6 4 cPrs s v):=Ev5.out.below b6 (Nat.le_refl _)
 have Evb6:Hid (ErV w6 4 cPrs tm vb):=Evb5.out.below b6 (Nat.le_refl _)
 have Evc6:Hid (ErV w6 4 cPrs s vc):=Evc5.out.below b6 (Nat.le_refl _)
 have G6:Hid (PtB w6 w2.heap.size c kd d q u (m:Int) e r):=G5.out.step b6
 clear b6 B5 Ev5 Evb5 Evc5 G5
 clear a0 a1 a2 a3 a4 a5 a6 a7
 obtain ⟨_,a0,a1,a2,a3,a4,a5,a6,a7⟩:=G6.out
 go_wp2_with fail
 all_goals first | (exfalso;omega) | skip
 refine (MA _).mono ?_
 rintro o ws ⟨rfl,es⟩
 subst es
 go_wp2_with fail
 all_goals first | (exfalso;omega) | skip
 refine (IN _).mono ?_
 rintro o ws ⟨rfl,es⟩
 subst es
 go_wp2_with fail
 all_goals first | (exfalso;omega) | skip
 refine (SG _).mono ?_
 rintro o ws ⟨rfl,es⟩
 subst es
 go_wp2_with fail
 all_goals first | (exfalso;omega) | skip
 refine (MC _).mono ?_
 rintro o ws ⟨rfl,es⟩
 subst es
 go_wp2_with fail
 all_goals first | (exfalso;omega) | skip
 refine (MA _).mono ?_
 rintro o ws ⟨rfl,es⟩
 subst es
 have NM:=num_erv Evb6.out (HT.out.2.below B6.out HT.out.2.pos)
 go_wp2_with fail
 all_goals first | (exfalso;omega) | skip
 refine NM.mono ?_
 rintro o w7 ⟨rfl,b7⟩
 clear NM
 have B7:Hid (Bl w w7):=B6.out.trans (b7.mono B6.out.size)
 have Ev7:Hid (ErV w7 4 cPrs s v):=Ev6.out.below b7 (Nat.le_refl _)
 have Evb7:Hid (ErV w7 4 cPrs tm vb):=Evb6.out.below b7 (Nat.le_refl _)
 have Evc7:Hid (ErV w7 4 cPrs s vc):=Evc6.out.below b7 (Nat.le_refl _)
 have G7:Hid (PtB w7 w2.heap.size c kd d q u (m:Int) e r):=G6.out.step b7
 clear b7 B6 Ev6 Evb6 Evc6 G6
 clear a0 a1 a2 a3 a4 a5 a6 a7
 obtain ⟨_,a0,a1,a2,a3,a4,a5,a6,a7⟩:=G7.out
 have NM:=num_erv Ev7.out (HT.out.2.below B7.out HT.out.2.pos)
 go_wp2_with fail
 all_goals first | (exfalso;omega) | skip
 refine NM.mono ?_
 rintro o w8 ⟨rfl,b8⟩
 clear NM
 have B8:Hid (Bl w w8):=B7.out.trans (b8.mono B7.out.size)
 have Ev8:Hid (ErV w8 4 cPrs s v):=Ev7.out.below b8 (Nat.le_refl _)
 have Evb8:Hid (ErV w8 4 cPrs tm vb):=Evb7.out.below b8 (Nat.le_refl _)
 have Evc8:Hid (ErV w8 4 cPrs s vc):=Evc7.out.below b8 (Nat.le_refl _)
 have G8:Hid (PtB w8 w2.heap.size c kd d q u (m:Int) e r):=G7.out.step b8
 clear b8 B7 Ev7 Evb7 Evc7 G7
 clear a0 a1 a2 a3 a4 a5 a6 a7
 obtain ⟨_,a0,a1,a2,a3,a4,a5,a6,a7⟩:=G8.out
 have NM:=num_erv Evc8.out (HT.out.2.below B8.out HT.out.2.pos)
 go_wp2_with fail
 all_goals first | (exfalso;omega) | skip
 refine NM.mono ?_
 rintro o w9 ⟨rfl,b9⟩
 clear NM
 have B9:Hid (Bl w w9):=B8.out.trans (b9.mono B8.out.size)
 have Ev9:Hid (ErV w9 4 cPrs s v):=Ev8.out.below b9 (Nat.le_refl _)
 have Evb9:Hid (ErV w9 4 cPrs tm vb):=Evb8.out.below b9 (Nat.le_refl _)
 have Evc9:Hid (ErV w9 4 cPrs s vc):=Evc8.out.below b9 (Nat.le_refl _)
 have G9:Hid (PtB w9 w2.heap.size c kd d q u (m:Int) e r):=G8.out.step b9
 clear b9 B8 Ev8 Evb8 Evc8 G8
 clear a0 a1 a2 a3 a4 a5 a6 a7
 obtain ⟨_,a0,a1,a2,a3,a4,a5,a6,a7⟩:=G9.out
 have NM:=num_erv Ev9.out (HT.out.2.below B9.out HT.out.2.pos)
 go_wp2_with fail
 all_goals first | (exfalso;omega) | skip
 refine NM.mono ?_
 rintro o w10 ⟨rfl,b10⟩
 clear NM
 have B10:Hid (Bl w w10):=B9.out.trans (b10.mono B9.out.size)
 have Ev10:Hid (ErV w10 4 cPrs s v):=Ev9.out.below b10 (Nat.le_refl _)
 have Evb10:Hid (ErV w10 4 cPrs tm vb):=Evb9.out.below b10 (Nat.le_refl _)
 have Evc10:Hid (ErV w10 4 cPrs s vc):=Evc9.out.below b10 (Nat.le_refl _)
 have G10:Hid (PtB w10 w2.heap.size c kd d q u (m:Int) e r):=G9.out.step b10
 clear b10 B9 Ev9 Evb9 Evc9 G9
 clear a0 a1 a2 a3 a4 a5 a6 a7
 obtain ⟨_,a0,a1,a2,a3,a4,a5,a6,a7⟩:=G10.out
 go_wp2_with fail
 all_goals first | (exfalso;omega) | skip
 refine (WK _ (HT.out.1.next B10.out) (HT.out.2.below B10.out HT.out.2.pos)).mono ?_
 rintro o wz ⟨rfl,bz⟩
 have Bz:Hid (Bl w wz):=B10.out.trans (bz.mono B10.out.size)
 clear bz
 go_wp2
 go_ret
 exact ⟨rfl,Bz.out⟩
theorem kany_none {c:UInt8}{r:List UInt8}(h1:sml c ≠ 105) (h2:c ≠ 48) (h3:isD 10 c=false) (h4:c ≠ 46):kInf (c :: r)=none∧kHex (c :: r)=none∧kDec (c :: r)=none:=by
 have i1:∀ t,wdB (105 :: t) (c :: r)=false:=fun t=>by
  show ((sml c == 105) && wdB t r)=false
  rw [beq_eq_false_iff_ne.mpr h1]
  rfl
 refine ⟨?_,?_,?_⟩
 · unfold kInf
   rw [if_neg (by rw [show wdB wInfinity (c :: r)=false from i1 _];decide),if_neg (by rw [show wdB wInf (c :: r)=false from i1 _];decide)]
 · unfold kHex
   rw [if_neg]
   intro q
   have q':=of_decide_eq_true q
   have q0:c.toNat=48:=q'.1
   exact h2 (UInt8.toNat_inj.1 q0)
 · have rc:rch 10 false (c :: r)=0:=rch_bad h3 (fun z=>by cases z.2.1)
   have mn:mnt 10 false (c :: r)=none:=by
    unfold mnt
    rw [rc,List.drop_zero,if_neg (show ¬ hdC (c :: r)=46 from fun q=>h4 (UInt8.toNat_inj.1 q)),if_pos rfl]
   unfold kDec
   rw [mn]
theorem nan_none {r : List UInt8} (h : wdB wNan r = true) : kHex r = none ∧ kDec r = none := by
  cases r with
  | nil => cases h
  | cons c t =>
    have h' : ((sml c == 110) && wdB [97, 110] t) = true := h
    rw [Bool.and_eq_true] at h'
    have e : sml c = 110 := by simpa using h'.1
    have key : ∀ c : Fin 256, sml (UInt8.ofNat c.val) = 110 → UInt8.ofNat c.val ≠ 48 ∧ isD 10 (UInt8.ofNat c.val) = false ∧ UInt8.ofNat c.val ≠ 46 := by decide +kernel
    have k := key ⟨c.toNat, c.toNat_lt⟩
    rw [show UInt8.ofNat c.toNat = c from by simp] at k
    obtain ⟨k1, k2, k3⟩ := k e
    exact (kany_none (by rw [e]; decide) k1 k2 k3).2
theorem kany_first {b : Bool} {t : List UInt8} {x : Pt × Nat} (h : kAny b t = some x) : sgA t = 0 := by
  cases t with
  | nil => rfl
  | cons c r =>
    show (if c = 43 ∨ c = 45 then 1 else 0) = 0
    rw [if_neg]
    intro q
    have k : sml c ≠ 105 ∧ c ≠ 48 ∧ isD 10 c = false ∧ c ≠ 46 ∧ wdB wNan (c :: r) = false := by
      rcases q with rfl | rfl
      · exact ⟨by decide, by decide, by decide, by decide, rfl⟩
      · exact ⟨by decide, by decide, by decide, by decide, rfl⟩
    obtain ⟨a1, a2, a3⟩ := kany_none (r := r) k.1 k.2.1 k.2.2.1 k.2.2.2.1
    unfold kAny at h
    have kn : kNan b (c :: r) = none := if_neg (fun z => by rw [k.2.2.2.2] at z; cases z.2)
    rw [a1, kn, a2, a3] at h
    cases h
theorem sg_zero {t:List UInt8}(h:sgA t=0):sgM t=false:=sg_none (by rw [h];rfl)
theorem kany_sign {r : List UInt8} {P : Pt} {n : Nat} {b : Bool} (h : kAny b r = some (P, n)) (hk : P.kind ≠ 4) (b' : Bool) : kAny b' r = some (P, n) := by
  unfold kAny at h ⊢
  cases hi : kInf r with
  | some x =>
    rw [hi] at h
    exact h
  | none =>
    rw [hi] at h
    dsimp only at h ⊢
    by_cases hw : wdB wNan r = true
    · exfalso
      cases b with
      | false =>
        have q : kNan false r = some ({ kind := 4 }, 3) := if_pos ⟨rfl, hw⟩
        rw [q] at h
        obtain ⟨rfl, _⟩ := Prod.mk.inj (Option.some.inj h)
        exact hk rfl
      | true =>
        have q : kNan true r = none := if_neg (by rintro ⟨h, _⟩; cases h)
        rw [q] at h
        obtain ⟨h1, h2⟩ := nan_none hw
        rw [h1, h2] at h
        cases h
    · have q : ∀ b, kNan b r = none := fun b => if_neg (fun z => hw z.2)
      rw [q] at h ⊢
      exact h
theorem scn_sign {l : List UInt8} {P : Pt} (h : scn l = some P) (hk : P.kind ≠ 4) : scn (45 :: l.drop (sgA l)) = some { P with neg := true } ∧ scn (l.drop (sgA l)) = some { P with neg := false } ∧ l ≠ [] := by
  unfold scn at h
  cases hp : pfx l with
  | none => rw [hp] at h; cases h
  | some x =>
    obtain ⟨p, n⟩ := x
    rw [hp] at h
    dsimp only at h
    by_cases q : n = l.length
    · rw [if_pos q] at h
      obtain rfl := Option.some.inj h
      unfold pfx at hp
      cases ha : kAny (decide (0 < sgA l)) (l.drop (sgA l)) with
      | none => rw [ha] at hp; cases hp
      | some y =>
        obtain ⟨p', n'⟩ := y
        rw [ha] at hp
        obtain ⟨e1, e2⟩ := Prod.mk.inj (Option.some.inj hp)
        have hk' : p'.kind ≠ 4 := by rw [← e1] at hk; exact hk
        have le := sgA_le l
        have ll : (l.drop (sgA l)).length = l.length - sgA l := List.length_drop
        have at1 := kany_sign ha hk' true
        have at0 := kany_sign ha hk' false
        have ns := kany_first ha
        generalize l.drop (sgA l) = t at *
        refine ⟨?_, ?_, ?_⟩
        · unfold scn pfx
          have s1 : sgA (45 :: t) = 1 := rfl
          have d1 : (45 :: t).drop 1 = t := rfl
          rw [s1, d1, show decide (0 < 1) = true from rfl, at1]
          dsimp only
          rw [if_pos (by simp only [List.length_cons]; omega), ← e1]
          rfl
        · unfold scn pfx
          rw [ns, show decide (0 < 0) = false from rfl, List.drop_zero, at0]
          dsimp only
          rw [if_pos (by omega), ← e1, sg_zero ns]
        · rintro rfl
          have z : t = [] := List.eq_nil_of_length_eq_zero (by rw [ll]; rfl)
          rw [z] at ha
          have kn : ∀ b, kAny b ([] : List UInt8) = none := by decide
          rw [kn] at ha
          cases ha
    · rw [if_neg q] at h
      cases h
theorem of_neg {z:Int}{g n f T:Nat}{L:Int}(hz:Fz z g n f T L) (P:Pt) (hk:P.kind ≠ 4):∃ x b,(∀ c,ofP g f T L { P with neg:=c }=(sgd g c x,b))∧x≤n∧(b=true → x=n):=by
 obtain ⟨en,_⟩:=fz_parts hz
 have hT:=(fz_pos hz).2.1
 unfold ofP
 by_cases h3:P.kind=3
 · exact ⟨T * 2 ^ f,false,fun c=>by rw [if_neg hk,if_pos h3],by omega,fun q=>by cases q⟩
 · by_cases h2:P.kind=2
   · have q:=rdA_end (f:=f) (T:=T) (L:=L) (n:=P.mant) (d:=1) (e:=P.exp) (more:=P.cut) (by omega)
     exact ⟨(rdA f T L P.mant 1 P.exp P.cut).1,(rdA f T L P.mant 1 P.exp P.cut).2,fun c=>by rw [if_neg hk,if_neg h3,if_pos h2],by rw [en];exact q.1,fun y=>by rw [en];exact q.2.1 y⟩
   · have q:=nrX_le (f:=f) (T:=T) (L:=L) (d:=sB P.dd) (p:=P.dp) (c:=P.dc) (by omega)
     exact ⟨(nrX f T L (sB P.dd) P.dp P.dc).1,(nrX f T L (sB P.dd) P.dp P.dc).2,fun c=>by rw [if_neg hk,if_neg h3,if_neg h2],by rw [en];exact q.1,fun y=>by rw [en];exact q.2.1 y⟩
theorem mg_sgdG {g x:Nat}(hx:x<g) (c:Bool):mg g (sgd g c x)=x∧sgd g c x<2 * g:=by
 cases c with
 | false=>exact ⟨Nat.mod_eq_of_lt hx,by show x<2 * g;omega⟩
 | true=>exact ⟨by show (x+g) % g=x;rw [Nat.add_mod_right,Nat.mod_eq_of_lt hx],by show x+g<2 * g;omega⟩
theorem pgrammar_law (l : List UInt8) (hl : l.length ≤ 140737488351232) (z : Int) (w : World) (hT : Tab w) (hg : ErrT w) :
    Calls Tryz.prog 4 #[.string (sB l), .int .i64 z] w fun o w' => o = .returned (.bool true) ∧ Below w.heap.size w w' := by
  obtain ⟨dS, qS, uS, SC⟩ := rscan_all l hl
  rcases fz_ofH z with h | ⟨g, n, f, T, L, hz⟩
  · have PA := fun W (_ : Tab W) => parse_no h (l := l) (by omega) none W
    cases hs : scn l with
    | none =>
      rw [hs] at SC
      exact pgr_size_no hT hg PA SC (fun W => rsize_no h W)
    | some P =>
      rw [hs] at SC
      exact pgr_size_yes hT hg PA SC (fun W => rsize_no h W)
  · obtain ⟨en, ng', g2, g0⟩ := fz_parts hz
    have SZ := fun W => rsize_z hz W
    have PA := fun W (t : Tab W) => parse_nil hz t (l := l) (by omega)
    cases hs : scn l with
    | none =>
      rw [hs] at SC
      unfold prA at PA
      rw [hs] at PA
      exact pgr_none hT hg PA SC SZ
    | some P =>
      rw [hs] at SC
      by_cases hk : P.kind = 4
      · unfold prA at PA
        rw [hs] at PA
        have e4 : ofP g f T L P = (T * 2 ^ f + 2 ^ (f - 1), false) := if_pos hk
        dsimp only at PA
        rw [e4] at PA
        have NA : ∀ W, Calls Tryz.prog 15 #[.int .i64 z] W fun o w' => o = .returned (.int .u64 ((T * 2 ^ f + 2 ^ (f - 1) : Nat) : Int)) ∧ w' = W := by
          intro W
          rcases hz with ⟨rfl, _, _, rfl, rfl, _⟩ | ⟨rfl, _, _, rfl, rfl, _⟩
          · exact rnan_32 W
          · exact rnan_64 W
        obtain ⟨c, k, dd, q, u, m, e, r⟩ := P
        have hk' : k = 4 := hk
        subst hk'
        exact pgr_nan hT hg PA SC SZ NA
      · obtain ⟨s1, s2, ne⟩ := scn_sign hs hk
        obtain ⟨x, b, ho, xn, hb⟩ := of_neg hz P hk
        have PB := fun W (t : Tab W) => parse_nil hz t (l := 45 :: l.drop (sgA l)) (by rw [List.length_cons, List.length_drop]; omega)
        have PC := fun W (t : Tab W) => parse_nil hz t (l := l.drop (sgA l)) (by rw [List.length_drop]; omega)
        unfold prA at PA PB PC
        rw [hs] at PA
        rw [s1] at PB
        rw [s2] at PC
        dsimp only at PA PB PC
        rw [show ofP g f T L P = (sgd g P.neg x, b) from ho P.neg] at PA
        rw [ho] at PB PC
        dsimp only at PA PB PC
        have xg : x < g := by omega
        obtain ⟨m1, m2⟩ := mg_sgdG xg P.neg
        have MA := fun W => rmag_z hz m2 W
        rw [m1] at MA
        have MC := fun W => rmag_z hz (b := x) (by omega) W
        rw [mg_self xg] at MC
        have SG := fun W => rsigned_z2 hz (x := x) (by omega) true W
        have IN := fun W => rinf_z hz W
        rw [← en] at IN
        have pc0 : sgd g false x = x := rfl
        rw [pc0] at PC
        obtain ⟨c, k, dd, q, u, m, e, r⟩ := P
        have hk' : k ≠ 4 := hk
        cases l with
        | nil => exact absurd rfl ne
        | cons c0 rr =>
          have hz0 : 0 < (sB (c0 :: rr)).size := Nat.succ_pos _
          have hl1 : (sB (c0 :: rr)).size ≤ 140737488351232 := hl
          have at0 : (((((sB (c0 :: rr))[0]'hz0).toNat : Nat) : Int)) = ((c0.toNat : Nat) : Int) := rfl
          by_cases q45 : c0 = 45
          · subst q45
            have sg : sgA (45 :: rr) = 1 := rfl
            rw [sg, List.drop_succ_cons, List.drop_zero] at PB PC
            have et : (sB (45 :: rr)).extract 1 (sB (45 :: rr)).size = sB rr := bl_from (45 :: rr) 1
            have hm := bl_append [45] rr
            cases b with
            | false => exact pgr_minus_zero hk' hz0 hl1 (by rw [bl_size]; simp at hl; omega) hm at0 et hT hg PA SC SZ PB PC SG MA MC
            | true =>
              obtain rfl := hb rfl
              exact pgr_minus_four hk' hz0 hl1 (by rw [bl_size]; simp at hl; omega) hm at0 et hT hg PA SC SZ PB PC SG IN MA MC
          · by_cases q43 : c0 = 43
            · subst q43
              have sg : sgA (43 :: rr) = 1 := rfl
              rw [sg, List.drop_succ_cons, List.drop_zero] at PB PC
              have et : (sB (43 :: rr)).extract 1 (sB (43 :: rr)).size = sB rr := bl_from (43 :: rr) 1
              have hm := bl_append [45] rr
              cases b with
              | false => exact pgr_plus_zero hk' hz0 hl1 (by rw [bl_size]; simp at hl; omega) hm at0 et hT hg PA SC SZ PB PC SG MA MC
              | true =>
                obtain rfl := hb rfl
                exact pgr_plus_four hk' hz0 hl1 (by rw [bl_size]; simp at hl; omega) hm at0 et hT hg PA SC SZ PB PC SG IN MA MC
            · have sg : sgA (c0 :: rr) = 0 := if_neg (fun y => y.elim q43 q45)
              rw [sg, List.drop_zero] at PB PC
              have hm := bl_append [45] (c0 :: rr)
              have n45 : ((c0.toNat : Nat) : Int) ≠ 45 := fun y => q45 (UInt8.toNat_inj.1 (Int.ofNat_inj.1 y))
              have n43 : ((c0.toNat : Nat) : Int) ≠ 43 := fun y => q43 (UInt8.toNat_inj.1 (Int.ofNat_inj.1 y))
              cases b with
              | false => exact pgr_bare_zero hk' hz0 hl1 hl1 hm n45 n43 rfl hT hg PA SC SZ PB PC SG MA MC
              | true =>
                obtain rfl := hb rfl
                exact pgr_bare_four hk' hz0 hl1 hl1 hm n45 n43 rfl hT hg PA SC SZ PB PC SG IN MA MC
end Go.Proofs.YtejgpbhionadbaaGreatDoor
