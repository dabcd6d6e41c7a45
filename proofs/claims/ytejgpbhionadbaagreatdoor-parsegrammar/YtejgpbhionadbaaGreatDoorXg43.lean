/-
  Holds: PsD PsE PsK.
-/
import Derived.Test.YtejgpbhionadbaaGreatDoorShelf
import Derived.Lib.ItoaNum
import Derived.WalkSpells
import Derived.WalkLawsBesides
import Derived.Lib.Mul64
import Derived.Lib.TrailingZeros
import Derived.Deep.OwnRows
import Derived.Laws.CopyOwn
import Derived.BigQuiet
import Derived.Deep.RegionHeld3
import Derived.Deep.LoopGhost
import Derived.Deep.AppendLies
import Derived.Deep.DeepCutAuto
import Derived.Stop.Asserts
import Derived.RowKitTokens
import Derived.Lib.BufferWrite
import Derived.Lib.ConvBytes
import Derived.Test.YtejgpbhionadbaaGreatDoorRows
import Derived.Laws.EntriesVeiled
import Derived.Test.YtejgpbhionadbaaGreatDoorXg38
import Derived.Test.YtejgpbhionadbaaGreatDoorXg41
import Derived.Test.YtejgpbhionadbaaGreatDoorXg42
set_option maxRecDepth 100000
set_option maxHeartbeats 4000000
namespace Go.Proofs.YtejgpbhionadbaaGreatDoor
open Go.RowKit
def cPrs:ByteArray:=⟨#[80,97,114,115,101]⟩
def cPfx:ByteArray:=⟨#[80,114,101,102,105,120]⟩
theorem wrap_of {c t : ByteArray} (hc : c.size ≤ 140737488355328) (ht : t.size ≤ 140737488355328) (b : Bool) (W : World) : Calls Tryz.prog 20 #[.string c, .string t, if b then .iface 63 (.int .i64 4) else .nilIface] W fun o w' => ∃ v, o = .returned v ∧ ErV w' (if b then 4 else 0) c t v ∧ Below W.heap.size W w' := by
  cases b with
  | false =>
    refine (wrap_nil c t W).mono ?_
    rintro o w' ⟨rfl, rfl⟩
    exact ⟨_, rfl, .inl ⟨rfl, rfl⟩, Below.refl _ _⟩
  | true =>
    refine (wrap_err hc ht 4 W).mono ?_
    rintro o w' ⟨v, rfl, h, b⟩
    exact ⟨v, rfl, .inr ⟨by decide, h⟩, b⟩
theorem prs_bad {z:Int}{s:ByteArray}(hs:s.size≤140737488355328) {po:Option Addr}{w:World}(CK:∀ W,Cb 19 #[vU 0,vI z] W (.iface 63 (vI 5))) :
 Calls Tryz.prog 11 #[.string s,vI z,.pointer po] w fun o w'=>∃ v,o=.returned (.tuple #[vU 0,v])∧ErV w' 5 cPrs s v∧Bl w w':=by
 have WR:=fun W=>wrap_err (c:=cPrs) (t:=s) (by decide) hs 5 W
 unfold cPrs at *
 clear hs
 go_enter Tryz.func11,Tryz.ntmps11
 go_wp2_with fail
 refine (CK _).mono ?_
 rintro o w1 ⟨rfl,b1⟩
 have B1:Hid (Bl w w1):=b1
 clear b1
 go_wp2_with fail
 refine (WR _).mono ?_
 rintro o w2 ⟨v,rfl,h2,b2⟩
 have B2:Hid (Bl w w2):=B1.out.trans (b2.mono B1.out.size)
 have H2:Hid (Wr w2 ⟨#[80,97,114,115,101]⟩ s 5 v):=h2
 clear b2 h2
 go_wp2
 go_ret2
 exact ⟨v,rfl,.inr ⟨by decide,H2.out⟩,B2.out⟩
theorem prs_no {z:Int}{s:ByteArray}(hs:s.size≤140737488355328) {po:Option Addr}{w:World}(CK:∀ W,Cb 19 #[vU 0,vI z] W .nilIface)
 (SC:∀ W,Cb 27 #[.string s] W (.tuple #[.agg #[.bool false,vI 0,.string ⟨#[]⟩,vI 0,.bool false,vU 0,vI 0,.bool false],.iface 63 (vI 3)])) :
 Calls Tryz.prog 11 #[.string s,vI z,.pointer po] w fun o w'=>∃ v,o=.returned (.tuple #[vU 0,v])∧ErV w' 3 cPrs s v∧Bl w w':=by
 have WR:=fun W=>wrap_err (c:=cPrs) (t:=s) (by decide) hs 3 W
 unfold cPrs at *
 clear hs
 go_enter Tryz.func11,Tryz.ntmps11
 go_wp2_with fail
 refine (CK _).mono ?_
 rintro o w1 ⟨rfl,b1⟩
 have B1:Hid (Bl w w1):=b1
 clear b1
 go_wp2_with fail
 refine (SC _).mono ?_
 rintro o w2 ⟨rfl,b2⟩
 have B2:Hid (Bl w (w2.alloc (.cells #[.bool false,vI 0,.string ⟨#[]⟩,vI 0,.bool false,vU 0,vI 0,.bool false] 43))):=(B1.out.trans (b2.mono B1.out.size)).alloc (Nat.le_trans B1.out.size b2.size) _
 clear b2
 go_wp2_with fail
 refine (WR _).mono ?_
 rintro o w3 ⟨v,rfl,h3,b3⟩
 have B3:Hid (Bl w w3):=B2.out.trans (b3.mono B2.out.size)
 have H3:Hid (Wr w3 ⟨#[80,97,114,115,101]⟩ s 3 v):=h3
 clear b3 h3
 go_wp2
 go_ret2
 exact ⟨v,rfl,.inr ⟨by decide,H3.out⟩,B3.out⟩
theorem prs_yes {z:Int}{s:ByteArray}{po:Option Addr}{w:World}{X E:Value}{k:Int}{R:World → World → Prop}{c:Bool}{kd:Int}{d:ByteArray}{q:Int}{u:Bool}{m:Nat}{e:Int}{r:Bool}(CK:∀ W,Cb 19 #[vU 0,vI z] W .nilIface)
 (SC:∀ W,Cb 27 #[.string s] W (.tuple #[ptV c kd d q u (m:Int) e r,.nilIface]))
 (VL:∀ W,Bl w W → Calls Tryz.prog 28 #[ptV c kd d q u (m:Int) e r,vI z,.pointer po] W fun o w'=>o=.returned (.tuple #[X,E])∧R W w')
 (WR:∀ W,Calls Tryz.prog 20 #[.string cPrs,.string s,E] W fun o w'=>∃ v,o=.returned v∧ErV w' k cPrs s v∧Bl W w') :
 Calls Tryz.prog 11 #[.string s,vI z,.pointer po] w fun o w'=>∃ v w1 w2,o=.returned (.tuple #[X,v])∧ErV w' k cPrs s v∧Bl w w1∧R w1 w2∧Bl w2 w':=by
 unfold cPrs ptV at *
 go_enter Tryz.func11,Tryz.ntmps11
 go_wp2_with fail
 refine (CK _).mono ?_
 rintro o w1 ⟨rfl,b1⟩
 have B1:Hid (Bl w w1):=b1
 clear b1
 go_wp2_with fail
 refine (SC _).mono ?_
 rintro o w2 ⟨rfl,b2⟩
 have B2:Hid (Bl w (w2.alloc (.cells #[.bool c,vI kd,.string d,vI q,.bool u,vU (m:Int),vI e,.bool r] 43))):=(B1.out.trans (b2.mono B1.out.size)).alloc (Nat.le_trans B1.out.size b2.size) _
 clear b2
 have VL':=VL _ B2.out
 go_wp2_with fail
 refine VL'.mono ?_
 rintro o w3 ⟨rfl,r3⟩
 have R3:Hid (R _ w3):=r3
 clear r3 VL VL'
 go_wp2_with fail
 refine (WR _).mono ?_
 rintro o w4 ⟨v,rfl,h4,b4⟩
 have H4:Hid (ErV w4 k ⟨#[80,97,114,115,101]⟩ s v∧Bl w3 w4):=⟨h4,b4⟩
 clear b4 h4
 go_wp2
 go_ret2
 exact ⟨v,_,w3,rfl,H4.out.1,B2.out,R3.out,H4.out.2⟩
theorem pre_no {z:Int}{s:ByteArray}(hs:s.size≤140737488355328) {po:Option Addr}{w:World}(CK:∀ W,Cb 19 #[vU 0,vI z] W .nilIface)
 (SC:∀ W,Cb 45 #[.string s] W (.tuple #[.agg #[.bool false,vI 0,.string ⟨#[]⟩,vI 0,.bool false,vU 0,vI 0,.bool false],vI 0,.iface 63 (vI 3)])) :
 Calls Tryz.prog 26 #[.string s,vI z,.pointer po] w fun o w'=>∃ v,o=.returned (.tuple #[vU 0,vI 0,v])∧ErV w' 3 cPfx s v∧Bl w w':=by
 have WR:=fun W=>wrap_err (c:=cPfx) (t:=s) (by decide) hs 3 W
 unfold cPfx at *
 clear hs
 go_enter Tryz.func26,Tryz.ntmps26
 go_wp2_with fail
 refine (CK _).mono ?_
 rintro o w1 ⟨rfl,b1⟩
 have B1:Hid (Bl w w1):=b1
 clear b1
 go_wp2_with fail
 refine (SC _).mono ?_
 rintro o w2 ⟨rfl,b2⟩
 have B2:Hid (Bl w (w2.alloc (.cells #[.bool false,vI 0,.string ⟨#[]⟩,vI 0,.bool false,vU 0,vI 0,.bool false] 43))):=(B1.out.trans (b2.mono B1.out.size)).alloc (Nat.le_trans B1.out.size b2.size) _
 clear b2
 go_wp2_with fail
 refine (WR _).mono ?_
 rintro o w3 ⟨v,rfl,h3,b3⟩
 have B3:Hid (Bl w w3):=B2.out.trans (b3.mono B2.out.size)
 have H3:Hid (Wr w3 ⟨#[80,114,101,102,105,120]⟩ s 3 v):=h3
 clear b3 h3
 go_wp2
 go_ret3
 exact ⟨v,rfl,.inr ⟨by decide,H3.out⟩,B3.out⟩
theorem pre_yes {z:Int}{s:ByteArray}{po:Option Addr}{w:World}{X E:Value}{N:Value}{k:Int}{R:World → World → Prop}{c:Bool}{kd:Int}{d:ByteArray}{q:Int}{u:Bool}{m:Nat}{e:Int}{r:Bool}(CK:∀ W,Cb 19 #[vU 0,vI z] W .nilIface)
 (SC:∀ W,Cb 45 #[.string s] W (.tuple #[ptV c kd d q u (m:Int) e r,N,.nilIface]))
 (VL:∀ W,Bl w W → Calls Tryz.prog 28 #[ptV c kd d q u (m:Int) e r,vI z,.pointer po] W fun o w'=>o=.returned (.tuple #[X,E])∧R W w')
 (WR:∀ W,Calls Tryz.prog 20 #[.string cPfx,.string s,E] W fun o w'=>∃ v,o=.returned v∧ErV w' k cPfx s v∧Bl W w') :
 Calls Tryz.prog 26 #[.string s,vI z,.pointer po] w fun o w'=>∃ v w1 w2,o=.returned (.tuple #[X,N,v])∧ErV w' k cPfx s v∧Bl w w1∧R w1 w2∧Bl w2 w':=by
 unfold cPfx ptV at *
 go_enter Tryz.func26,Tryz.ntmps26
 go_wp2_with fail
 refine (CK _).mono ?_
 rintro o w1 ⟨rfl,b1⟩
 have B1:Hid (Bl w w1):=b1
 clear b1
 go_wp2_with fail
 refine (SC _).mono ?_
 rintro o w2 ⟨rfl,b2⟩
 have B2:Hid (Bl w (w2.alloc (.cells #[.bool c,vI kd,.string d,vI q,.bool u,vU (m:Int),vI e,.bool r] 43))):=(B1.out.trans (b2.mono B1.out.size)).alloc (Nat.le_trans B1.out.size b2.size) _
 clear b2
 have VL':=VL _ B2.out
 go_wp2_with fail
 refine VL'.mono ?_
 rintro o w3 ⟨rfl,r3⟩
 have R3:Hid (R _ w3):=r3
 clear r3 VL VL'
 go_wp2_with fail
 refine (WR _).mono ?_
 rintro o w4 ⟨v,rfl,h4,b4⟩
 have H4:Hid (ErV w4 k ⟨#[80,114,101,102,105,120]⟩ s v∧Bl w3 w4):=⟨h4,b4⟩
 clear b4 h4
 go_wp2
 go_ret3
 exact ⟨v,_,w3,rfl,H4.out.1,B2.out,R3.out,H4.out.2⟩
def prA (g f T:Nat) (L:Int) (l:List UInt8):Nat × Int :=
 match scn l with
 | none=>(0,3)
 | some P=>((ofP g f T L P).1,if (ofP g f T L P).2 then 4 else 0)
def pxA (g f T:Nat) (L:Int) (l:List UInt8):Nat × Nat × Int :=
 match pfx l with
 | none=>(0,0,3)
 | some (P,n)=>((ofP g f T L P).1,n,if (ofP g f T L P).2 then 4 else 0)
def Prd (mb:Option Nat) (W:World) (M K:Nat) (o:Option Pt):Prop :=
 match o with
 | none=>Mq mb 0 0 W 0 0
 | some P=>Vrd mb W P (Lgt M K P)
theorem parse_no {z:Int}(h:Sn z) {l:List UInt8}(hl:l.length≤140737488351256) (po:Option Addr) (w:World) :
 Calls Tryz.prog 11 #[.string (sB l),vI z,.pointer po] w fun o w'=>∃ v,o=.returned (.tuple #[vU 0,v])∧ErV w' 5 cPrs (sB l) v∧Bl w w' :=
 prs_bad (by rw [bl_size];omega) fun W=>check_no h 0 W
theorem parse_ok {z : Int} {g n f T : Nat} {L : Int} (hz : Fz z g n f T L) {M K : Nat} (hx : Xz z f T L M K) {mb : Option Nat} {w0 W : World} (mq : Mq mb 0 0 W 0 0) (F : Frm mb w0 W) (hT : Tab w0) {l : List UInt8} (hl : l.length ≤ 140737488351256) :
    Calls Tryz.prog 11 #[.string (sB l), .int .i64 z, mqV mb] W fun o W' => ∃ v, o = .returned (.tuple #[.int .u64 (((prA g f T L l).1 : Nat) : Int), v]) ∧ ErV W' (prA g f T L l).2 cPrs (sB l) v ∧ Bt mb W W' ∧ Prd mb W' M K (scn l) := by
  obtain ⟨po, hpo⟩ : ∃ po, mqV mb = .pointer po := by cases mb <;> exact ⟨_, rfl⟩
  have CK := fun W => check_z hz W
  have hs : (sB l).size ≤ 140737488355328 := by rw [bl_size]; omega
  have SC := fun W => scan_any l hl W
  unfold prA
  cases h : scn l with
  | none =>
    rw [h] at SC
    rw [hpo]
    refine (prs_no hs CK SC).mono ?_
    rintro o w' ⟨v, rfl, e, b⟩
    exact ⟨v, rfl, e, Bt.of b, mq.step b⟩
  | some P =>
    rw [h] at SC
    have VL := fun W' (b : Below W.heap.size W W') => value_ok hz hx (mq.step b) (F.below b) hT (scn_ok h)
    rw [hpo] at VL ⊢
    refine (prs_yes (R := fun W W' => Bt mb W W' ∧ Vrd mb W' P (Lgt M K P)) CK SC VL (fun W => wrap_of (by decide) hs _ W)).mono ?_
    rintro o w' ⟨v, w1, w2, rfl, e, b1, ⟨b2, r⟩, b3⟩
    exact ⟨v, rfl, e, ((Bt.of b1).trans b2).trans (Bt.of b3), r.step b3⟩
theorem prefix_ok {z : Int} {g n f T : Nat} {L : Int} (hz : Fz z g n f T L) {M K : Nat} (hx : Xz z f T L M K) {W : World} (hT : Tab W) {l : List UInt8} (hl : l.length ≤ 140737488351256) :
    Calls Tryz.prog 26 #[.string (sB l), .int .i64 z, .pointer none] W fun o W' => ∃ v, o = .returned (.tuple #[.int .u64 (((pxA g f T L l).1 : Nat) : Int), .int .i64 (((pxA g f T L l).2.1 : Nat) : Int), v]) ∧ ErV W' (pxA g f T L l).2.2 cPfx (sB l) v ∧ Below W.heap.size W W' := by
  have CK := fun W => check_z hz W
  have hs : (sB l).size ≤ 140737488355328 := by rw [bl_size]; omega
  have SC := fun W => prefix_any2 l hl W
  unfold pxA
  cases h : pfx l with
  | none =>
    rw [h] at SC
    exact pre_no hs CK SC
  | some x =>
    obtain ⟨P, k⟩ := x
    rw [h] at SC
    have VL := fun W' (b : Below W.heap.size W W') => value_ok hz hx (mb := none) (w0 := W) (W := W') rfl ⟨b, fun _ h => by cases h⟩ hT (pfx_ok h)
    refine (pre_yes (R := fun W W' => Bt none W W' ∧ Vrd none W' P (Lgt M K P)) CK SC VL (fun W => wrap_of (by decide) hs _ W)).mono ?_
    rintro o w' ⟨v, w1, w2, rfl, e, b1, ⟨b2, _⟩, b3⟩
    exact ⟨v, rfl, e, (b1.trans (b2.none.mono b1.size)).trans (b3.mono (Nat.le_trans b1.size b2.none.size))⟩
theorem parse_nil {z:Int}{g n f T:Nat}{L:Int}(hz:Fz z g n f T L) {W:World}(hT:Tab W) {l:List UInt8}(hl:l.length≤140737488351256) :
 Calls Tryz.prog 11 #[.string (sB l),vI z,.pointer none] W fun o W'=>∃ v,o=.returned (.tuple #[vU (((prA g f T L l).1:Nat):Int),v])∧ErV W' (prA g f T L l).2 cPrs (sB l) v∧Bl W W':=by
 obtain ⟨M,K,hx⟩:∃ M K,Xz z f T L M K:=by
  rcases hz with ⟨rfl,_,_,rfl,rfl,rfl⟩ | ⟨rfl,_,_,rfl,rfl,rfl⟩
  · exact ⟨_,_,.inl ⟨rfl,rfl,rfl,rfl,rfl,rfl⟩⟩
  · exact ⟨_,_,.inr ⟨rfl,rfl,rfl,rfl,rfl,rfl⟩⟩
 refine (parse_ok hz hx (mb:=none) (w0:=W) rfl ⟨Below.refl _ _,fun _ h=>by cases h⟩ hT hl).mono ?_
 rintro o w' ⟨v,rfl,e,b,_⟩
 exact ⟨v,rfl,e,b.none⟩
end Go.Proofs.YtejgpbhionadbaaGreatDoor
namespace Go.Proofs.YtejgpbhionadbaaGreatDoor
open Go.RowKit Go.Extern.Stop Go.Stop Go.Extern
theorem f64:Fz 64 9223372036854775808 9218868437227405312 52 2047 (-1074):=.inr ⟨rfl,rfl,rfl,rfl,rfl,rfl⟩
theorem w18a:prA 9223372036854775808 52 2047 (-1074) [48,46,49]=(4591870180066957722,0):=by decide +kernel
theorem w18b:prA 9223372036854775808 52 2047 (-1074) [49,101,52,48,48]=(9218868437227405312,4):=by decide +kernel
theorem w18c:prA 9223372036854775808 52 2047 (-1074) [48,120,49,112,45,49,48,55,52]=(1,0):=by decide +kernel
theorem w18d:pxA 9223372036854775808 52 2047 (-1074) [50,46,53,107,103]=(4612811918334230528,3,0):=by decide +kernel
theorem ErV.nil {w:World}{c t:ByteArray}{v:Value}(h:ErV w 0 c t v):v=.nilIface:=by
 rcases h with h | h
 · exact h.2
 · exact absurd rfl h.1
theorem works18 (w:World) (hT:Tab w) (hg:ErrT w):Cb 10 #[] w (.bool true):=by
 have P1:=fun W (h:Tab W)=>parse_nil f64 h (l:=[48,46,49]) (by decide)
 have P2:=fun W (h:Tab W)=>parse_nil f64 h (l:=[49,101,52,48,48]) (by decide)
 have P3:=fun W (h:Tab W)=>parse_nil f64 h (l:=[48,120,49,112,45,49,48,55,52]) (by decide)
 have P4:=fun W (h:Tab W)=>prefix_ok f64 (.inr ⟨rfl,rfl,rfl,rfl,rfl,rfl⟩) h (l:=[50,46,53,107,103]) (by decide)
 rw [w18a] at P1
 rw [w18b] at P2
 rw [w18c] at P3
 rw [w18d] at P4
 have HT:Hid (Tab w∧ErrT w):=⟨hT,hg⟩
 clear hT hg
 go_enter Tryz.func10,Tryz.ntmps10
 go_wp2_with fail
 refine (P1 _ HT.out.1).mono ?_
 rintro o w1 ⟨v1,rfl,e1,b1⟩
 obtain rfl:=e1.nil
 have B1:Hid (Bl w w1):=b1
 clear b1 e1 P1
 go_wp2_with fail
 refine (P2 _ (HT.out.1.next B1.out)).mono ?_
 rintro o w2 ⟨v2,rfl,e2,b2⟩
 have B2:Hid (Bl w w2):=B1.out.trans (b2.mono B1.out.size)
 have E2:Hid (ErV w2 4 cPrs (sB [49,101,52,48,48]) v2):=e2
 clear b2 e2 P2
 go_wp2_with fail
 refine (P3 _ (HT.out.1.next B2.out)).mono ?_
 rintro o w3 ⟨v3,rfl,e3,b3⟩
 obtain rfl:=e3.nil
 have B3:Hid (Bl w w3):=B2.out.trans (b3.mono B2.out.size)
 have E3:Hid (ErV w3 4 cPrs (sB [49,101,52,48,48]) v2):=E2.out.below b3 (Nat.le_refl _)
 clear b3 e3 P3
 go_wp2_with fail
 refine (P4 _ (HT.out.1.next B3.out)).mono ?_
 rintro o w4 ⟨v4,rfl,e4,b4⟩
 obtain rfl:=e4.nil
 have B4:Hid (Bl w w4):=B3.out.trans (b4.mono B3.out.size)
 have E4:Hid (ErV w4 4 cPrs (sB [49,101,52,48,48]) v2):=E3.out.below b4 (Nat.le_refl _)
 clear b4 e4 P4
 have TL:=told18_any E4.out (HT.out.2.below B4.out HT.out.2.pos)
 unfold cPrs at TL
 go_wp2_with fail
 refine TL.mono ?_
 rintro o w5 ⟨rfl,b5⟩
 have B5:Hid (Bl w w5):=B4.out.trans (b5.mono B4.out.size)
 clear b5 TL
 go_wp2
 go_ret
 exact ⟨rfl,B5.out⟩
end Go.Proofs.YtejgpbhionadbaaGreatDoor
namespace Go.Proofs.YtejgpbhionadbaaGreatDoor
open Go.RowKit
theorem num_erv {k:Int}{c s:ByteArray}{v:Value}{w:World}(h:ErV w k c s v) (hg:ErrT w):Cb 14 #[v] w (vI k):=by
 rcases h with ⟨rfl,rfl⟩ | ⟨_,h⟩
 · exact num_nil w
 · exact num_ch h hg
theorem fz_ofH (z:Int):Sn z ∨ ∃ g n f T L,Fz z g n f T L:=by
 by_cases h:z=32
 · exact .inr ⟨_,_,_,_,_,.inl ⟨h,rfl,rfl,rfl,rfl,rfl⟩⟩
 · by_cases h':z=64
   · exact .inr ⟨_,_,_,_,_,.inr ⟨h',rfl,rfl,rfl,rfl,rfl⟩⟩
   · exact .inl ⟨h,h'⟩
end Go.Proofs.YtejgpbhionadbaaGreatDoor
