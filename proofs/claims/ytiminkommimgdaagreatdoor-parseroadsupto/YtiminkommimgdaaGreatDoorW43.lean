/-
  Holds: PsD PsE LawPLight LawPRoad.
-/
import Derived.Test.YtiminkommimgdaaGreatDoorShelf
import Derived.Lib.ItoaNum
import Derived.WalkSpells
import Derived.WalkLawsBesides
import Derived.Lib.Mul64
import Derived.Lib.TrailingZeros
import Derived.Deep.OwnRows
import Derived.Laws.CopyOwn
import Derived.BigQuiet
import Derived.Deep.RegionHeld3
import Derived.Deep.LoopGhost
import Derived.Deep.AppendLies
import Derived.Deep.DeepCutAuto
import Derived.Stop.Asserts
import Derived.RowKitTokens
import Derived.Lib.BufferWrite
import Derived.Lib.ConvBytes
import Derived.Test.YtiminkommimgdaaGreatDoorRows
import Derived.Laws.EntriesVeiled
import Derived.Test.YtiminkommimgdaaGreatDoorW38
import Derived.Test.YtiminkommimgdaaGreatDoorW41
import Derived.Test.YtiminkommimgdaaGreatDoorW42
set_option maxRecDepth 100000
set_option maxHeartbeats 4000000
namespace Go.Proofs.YtiminkommimgdaaGreatDoor
open Go.RowKit
def cPrs:ByteArray:=⟨#[80,97,114,115,101]⟩
def cPfx:ByteArray:=⟨#[80,114,101,102,105,120]⟩
theorem wrap_of {c t : ByteArray} (hc : c.size ≤ 140737488355328) (ht : t.size ≤ 140737488355328) (b : Bool) (W : World) : Calls Tryz.prog 29 #[.string c, .string t, if b then .iface 77 (.int .i64 4) else .nilIface] W fun o w' => ∃ v, o = .returned v ∧ ErV w' (if b then 4 else 0) c t v ∧ Below W.heap.size W w' := by
  cases b with
  | false =>
    refine (wrap_nil c t W).mono ?_
    rintro o w' ⟨rfl, rfl⟩
    exact ⟨_, rfl, .inl ⟨rfl, rfl⟩, Below.refl _ _⟩
  | true =>
    refine (wrap_err hc ht 4 W).mono ?_
    rintro o w' ⟨v, rfl, h, b⟩
    exact ⟨v, rfl, .inr ⟨by decide, h⟩, b⟩
theorem prs_bad {z:Int}{s:ByteArray}(hs:s.size≤140737488355328) {po:Option Addr}{w:World}(CK:∀ W,Cb 28 #[vU 0,vI z] W (.iface 77 (vI 5))) :
 Calls Tryz.prog 8 #[.string s,vI z,.pointer po] w fun o w'=>∃ v,o=.returned (.tuple #[vU 0,v])∧ErV w' 5 cPrs s v∧Bl w w':=by
 have WR:=fun W=>wrap_err (c:=cPrs) (t:=s) (by decide) hs 5 W
 unfold cPrs at *
 clear hs
 go_enter Tryz.func8,Tryz.ntmps8
 go_wp2_with fail
 refine (CK _).mono ?_
 rintro o w1 ⟨rfl,b1⟩
 have B1:Hid (Bl w w1):=b1
 clear b1
 go_wp2_with fail
 refine (WR _).mono ?_
 rintro o w2 ⟨v,rfl,h2,b2⟩
 have B2:Hid (Bl w w2):=B1.out.trans (b2.mono B1.out.size)
 have H2:Hid (Wr w2 ⟨#[80,97,114,115,101]⟩ s 5 v):=h2
 clear b2 h2
 go_wp2
 go_ret2
 exact ⟨v,rfl,.inr ⟨by decide,H2.out⟩,B2.out⟩
theorem prs_no {z:Int}{s:ByteArray}(hs:s.size≤140737488355328) {po:Option Addr}{w:World}(CK:∀ W,Cb 28 #[vU 0,vI z] W .nilIface)
 (SC:∀ W,Cb 30 #[.string s] W (.tuple #[.agg #[.bool false,vI 0,.string ⟨#[]⟩,vI 0,.bool false,vU 0,vI 0,.bool false],.iface 77 (vI 3)])) :
 Calls Tryz.prog 8 #[.string s,vI z,.pointer po] w fun o w'=>∃ v,o=.returned (.tuple #[vU 0,v])∧ErV w' 3 cPrs s v∧Bl w w':=by
 have WR:=fun W=>wrap_err (c:=cPrs) (t:=s) (by decide) hs 3 W
 unfold cPrs at *
 clear hs
 go_enter Tryz.func8,Tryz.ntmps8
 go_wp2_with fail
 refine (CK _).mono ?_
 rintro o w1 ⟨rfl,b1⟩
 have B1:Hid (Bl w w1):=b1
 clear b1
 go_wp2_with fail
 refine (SC _).mono ?_
 rintro o w2 ⟨rfl,b2⟩
 have B2:Hid (Bl w (w2.alloc (.cells #[.bool false,vI 0,.string ⟨#[]⟩,vI 0,.bool false,vU 0,vI 0,.bool false] 41))):=(B1.out.trans (b2.mono B1.out.size)).alloc (Nat.le_trans B1.out.size b2.size) _
 clear b2
 go_wp2_with fail
 refine (WR _).mono ?_
 rintro o w3 ⟨v,rfl,h3,b3⟩
 have B3:Hid (Bl w w3):=B2.out.trans (b3.mono B2.out.size)
 have H3:Hid (Wr w3 ⟨#[80,97,114,115,101]⟩ s 3 v):=h3
 clear b3 h3
 go_wp2
 go_ret2
 exact ⟨v,rfl,.inr ⟨by decide,H3.out⟩,B3.out⟩
theorem prs_yes {z:Int}{s:ByteArray}{po:Option Addr}{w:World}{X E:Value}{k:Int}{R:World → World → Prop}{c:Bool}{kd:Int}{d:ByteArray}{q:Int}{u:Bool}{m:Nat}{e:Int}{r:Bool}(CK:∀ W,Cb 28 #[vU 0,vI z] W .nilIface)
 (SC:∀ W,Cb 30 #[.string s] W (.tuple #[ptV c kd d q u (m:Int) e r,.nilIface]))
 (VL:∀ W,Bl w W → Calls Tryz.prog 31 #[ptV c kd d q u (m:Int) e r,vI z,.pointer po] W fun o w'=>o=.returned (.tuple #[X,E])∧R W w')
 (WR:∀ W,Calls Tryz.prog 29 #[.string cPrs,.string s,E] W fun o w'=>∃ v,o=.returned v∧ErV w' k cPrs s v∧Bl W w') :
 Calls Tryz.prog 8 #[.string s,vI z,.pointer po] w fun o w'=>∃ v w1 w2,o=.returned (.tuple #[X,v])∧ErV w' k cPrs s v∧Bl w w1∧R w1 w2∧Bl w2 w':=by
 unfold cPrs ptV at *
 go_enter Tryz.func8,Tryz.ntmps8
 go_wp2_with fail
 refine (CK _).mono ?_
 rintro o w1 ⟨rfl,b1⟩
 have B1:Hid (Bl w w1):=b1
 clear b1
 go_wp2_with fail
 refine (SC _).mono ?_
 rintro o w2 ⟨rfl,b2⟩
 have B2:Hid (Bl w (w2.alloc (.cells #[.bool c,vI kd,.string d,vI q,.bool u,vU (m:Int),vI e,.bool r] 41))):=(B1.out.trans (b2.mono B1.out.size)).alloc (Nat.le_trans B1.out.size b2.size) _
 clear b2
 have VL':=VL _ B2.out
 go_wp2_with fail
 refine VL'.mono ?_
 rintro o w3 ⟨rfl,r3⟩
 have R3:Hid (R _ w3):=r3
 clear r3 VL VL'
 go_wp2_with fail
 refine (WR _).mono ?_
 rintro o w4 ⟨v,rfl,h4,b4⟩
 have H4:Hid (ErV w4 k ⟨#[80,97,114,115,101]⟩ s v∧Bl w3 w4):=⟨h4,b4⟩
 clear b4 h4
 go_wp2
 go_ret2
 exact ⟨v,_,w3,rfl,H4.out.1,B2.out,R3.out,H4.out.2⟩
theorem pre_no {z:Int}{s:ByteArray}(hs:s.size≤140737488355328) {po:Option Addr}{w:World}(CK:∀ W,Cb 28 #[vU 0,vI z] W .nilIface)
 (SC:∀ W,Cb 33 #[.string s] W (.tuple #[.agg #[.bool false,vI 0,.string ⟨#[]⟩,vI 0,.bool false,vU 0,vI 0,.bool false],vI 0,.iface 77 (vI 3)])) :
 Calls Tryz.prog 10 #[.string s,vI z,.pointer po] w fun o w'=>∃ v,o=.returned (.tuple #[vU 0,vI 0,v])∧ErV w' 3 cPfx s v∧Bl w w':=by
 have WR:=fun W=>wrap_err (c:=cPfx) (t:=s) (by decide) hs 3 W
 unfold cPfx at *
 clear hs
 go_enter Tryz.func10,Tryz.ntmps10
 go_wp2_with fail
 refine (CK _).mono ?_
 rintro o w1 ⟨rfl,b1⟩
 have B1:Hid (Bl w w1):=b1
 clear b1
 go_wp2_with fail
 refine (SC _).mono ?_
 rintro o w2 ⟨rfl,b2⟩
 have B2:Hid (Bl w (w2.alloc (.cells #[.bool false,vI 0,.string ⟨#[]⟩,vI 0,.bool false,vU 0,vI 0,.bool false] 41))):=(B1.out.trans (b2.mono B1.out.size)).alloc (Nat.le_trans B1.out.size b2.size) _
 clear b2
 go_wp2_with fail
 refine (WR _).mono ?_
 rintro o w3 ⟨v,rfl,h3,b3⟩
 have B3:Hid (Bl w w3):=B2.out.trans (b3.mono B2.out.size)
 have H3:Hid (Wr w3 ⟨#[80,114,101,102,105,120]⟩ s 3 v):=h3
 clear b3 h3
 go_wp2
 go_ret3
 exact ⟨v,rfl,.inr ⟨by decide,H3.out⟩,B3.out⟩
theorem pre_yes {z:Int}{s:ByteArray}{po:Option Addr}{w:World}{X E:Value}{N:Value}{k:Int}{R:World → World → Prop}{c:Bool}{kd:Int}{d:ByteArray}{q:Int}{u:Bool}{m:Nat}{e:Int}{r:Bool}(CK:∀ W,Cb 28 #[vU 0,vI z] W .nilIface)
 (SC:∀ W,Cb 33 #[.string s] W (.tuple #[ptV c kd d q u (m:Int) e r,N,.nilIface]))
 (VL:∀ W,Bl w W → Calls Tryz.prog 31 #[ptV c kd d q u (m:Int) e r,vI z,.pointer po] W fun o w'=>o=.returned (.tuple #[X,E])∧R W w')
 (WR:∀ W,Calls Tryz.prog 29 #[.string cPfx,.string s,E] W fun o w'=>∃ v,o=.returned v∧ErV w' k cPfx s v∧Bl W w') :
 Calls Tryz.prog 10 #[.string s,vI z,.pointer po] w fun o w'=>∃ v w1 w2,o=.returned (.tuple #[X,N,v])∧ErV w' k cPfx s v∧Bl w w1∧R w1 w2∧Bl w2 w':=by
 unfold cPfx ptV at *
 go_enter Tryz.func10,Tryz.ntmps10
 go_wp2_with fail
 refine (CK _).mono ?_
 rintro o w1 ⟨rfl,b1⟩
 have B1:Hid (Bl w w1):=b1
 clear b1
 go_wp2_with fail
 refine (SC _).mono ?_
 rintro o w2 ⟨rfl,b2⟩
 have B2:Hid (Bl w (w2.alloc (.cells #[.bool c,vI kd,.string d,vI q,.bool u,vU (m:Int),vI e,.bool r] 41))):=(B1.out.trans (b2.mono B1.out.size)).alloc (Nat.le_trans B1.out.size b2.size) _
 clear b2
 have VL':=VL _ B2.out
 go_wp2_with fail
 refine VL'.mono ?_
 rintro o w3 ⟨rfl,r3⟩
 have R3:Hid (R _ w3):=r3
 clear r3 VL VL'
 go_wp2_with fail
 refine (WR _).mono ?_
 rintro o w4 ⟨v,rfl,h4,b4⟩
 have H4:Hid (ErV w4 k ⟨#[80,114,101,102,105,120]⟩ s v∧Bl w3 w4):=⟨h4,b4⟩
 clear b4 h4
 go_wp2
 go_ret3
 exact ⟨v,_,w3,rfl,H4.out.1,B2.out,R3.out,H4.out.2⟩
def prA (g f T:Nat) (L:Int) (l:List UInt8):Nat × Int :=
 match scn l with
 | none=>(0,3)
 | some P=>((ofP g f T L P).1,if (ofP g f T L P).2 then 4 else 0)
def pxA (g f T:Nat) (L:Int) (l:List UInt8):Nat × Nat × Int :=
 match pfx l with
 | none=>(0,0,3)
 | some (P,n)=>((ofP g f T L P).1,n,if (ofP g f T L P).2 then 4 else 0)
def Prd (mb:Option Nat) (W:World) (M K:Nat) (o:Option Pt):Prop :=
 match o with
 | none=>Mq mb 0 0 W 0 0
 | some P=>Vrd mb W P (Lgt M K P)
theorem parse_no {z:Int}(h:Sn z) {l:List UInt8}(hl:l.length≤1048576) (po:Option Addr) (w:World) :
 Calls Tryz.prog 8 #[.string (sB l),vI z,.pointer po] w fun o w'=>∃ v,o=.returned (.tuple #[vU 0,v])∧ErV w' 5 cPrs (sB l) v∧Bl w w' :=
 prs_bad (by rw [bl_size];omega) fun W=>check_no h 0 W
theorem parse_ok {z : Int} {g n f T : Nat} {L : Int} (hz : Fz z g n f T L) {M K : Nat} (hx : Xz z f T L M K) {mb : Option Nat} {w0 W : World} (mq : Mq mb 0 0 W 0 0) (F : Frm mb w0 W) (hT : Tab w0) {l : List UInt8} (hl : l.length ≤ 1048576) :
    Calls Tryz.prog 8 #[.string (sB l), .int .i64 z, mqV mb] W fun o W' => ∃ v, o = .returned (.tuple #[.int .u64 (((prA g f T L l).1 : Nat) : Int), v]) ∧ ErV W' (prA g f T L l).2 cPrs (sB l) v ∧ Bt mb W W' ∧ Prd mb W' M K (scn l) := by
  obtain ⟨po, hpo⟩ : ∃ po, mqV mb = .pointer po := by cases mb <;> exact ⟨_, rfl⟩
  have CK := fun W => check_z hz W
  have hs : (sB l).size ≤ 140737488355328 := by rw [bl_size]; omega
  have SC := fun W => scan_any l hl W
  unfold prA
  cases h : scn l with
  | none =>
    rw [h] at SC
    rw [hpo]
    refine (prs_no hs CK SC).mono ?_
    rintro o w' ⟨v, rfl, e, b⟩
    exact ⟨v, rfl, e, Bt.of b, mq.step b⟩
  | some P =>
    rw [h] at SC
    have VL := fun W' (b : Below W.heap.size W W') => value_ok hz hx (mq.step b) (F.below b) hT (scn_ok h)
    rw [hpo] at VL ⊢
    refine (prs_yes (R := fun W W' => Bt mb W W' ∧ Vrd mb W' P (Lgt M K P)) CK SC VL (fun W => wrap_of (by decide) hs _ W)).mono ?_
    rintro o w' ⟨v, w1, w2, rfl, e, b1, ⟨b2, r⟩, b3⟩
    exact ⟨v, rfl, e, ((Bt.of b1).trans b2).trans (Bt.of b3), r.step b3⟩
theorem prefix_ok {z : Int} {g n f T : Nat} {L : Int} (hz : Fz z g n f T L) {M K : Nat} (hx : Xz z f T L M K) {W : World} (hT : Tab W) {l : List UInt8} (hl : l.length ≤ 1048576) :
    Calls Tryz.prog 10 #[.string (sB l), .int .i64 z, .pointer none] W fun o W' => ∃ v, o = .returned (.tuple #[.int .u64 (((pxA g f T L l).1 : Nat) : Int), .int .i64 (((pxA g f T L l).2.1 : Nat) : Int), v]) ∧ ErV W' (pxA g f T L l).2.2 cPfx (sB l) v ∧ Below W.heap.size W W' := by
  have CK := fun W => check_z hz W
  have hs : (sB l).size ≤ 140737488355328 := by rw [bl_size]; omega
  have SC := fun W => prefix_any2 l hl W
  unfold pxA
  cases h : pfx l with
  | none =>
    rw [h] at SC
    exact pre_no hs CK SC
  | some x =>
    obtain ⟨P, k⟩ := x
    rw [h] at SC
    have VL := fun W' (b : Below W.heap.size W W') => value_ok hz hx (mb := none) (w0 := W) (W := W') rfl ⟨b, fun _ h => by cases h⟩ hT (pfx_ok h)
    refine (pre_yes (R := fun W W' => Bt none W W' ∧ Vrd none W' P (Lgt M K P)) CK SC VL (fun W => wrap_of (by decide) hs _ W)).mono ?_
    rintro o w' ⟨v, w1, w2, rfl, e, b1, ⟨b2, _⟩, b3⟩
    exact ⟨v, rfl, e, (b1.trans (b2.none.mono b1.size)).trans (b3.mono (Nat.le_trans b1.size b2.none.size))⟩
theorem parse_nil {z:Int}{g n f T:Nat}{L:Int}(hz:Fz z g n f T L) {W:World}(hT:Tab W) {l:List UInt8}(hl:l.length≤1048576) :
 Calls Tryz.prog 8 #[.string (sB l),vI z,.pointer none] W fun o W'=>∃ v,o=.returned (.tuple #[vU (((prA g f T L l).1:Nat):Int),v])∧ErV W' (prA g f T L l).2 cPrs (sB l) v∧Bl W W':=by
 obtain ⟨M,K,hx⟩:∃ M K,Xz z f T L M K:=by
  rcases hz with ⟨rfl,_,_,rfl,rfl,rfl⟩ | ⟨rfl,_,_,rfl,rfl,rfl⟩
  · exact ⟨_,_,.inl ⟨rfl,rfl,rfl,rfl,rfl,rfl⟩⟩
  · exact ⟨_,_,.inr ⟨rfl,rfl,rfl,rfl,rfl,rfl⟩⟩
 refine (parse_ok hz hx (mb:=none) (w0:=W) rfl ⟨Below.refl _ _,fun _ h=>by cases h⟩ hT hl).mono ?_
 rintro o w' ⟨v,rfl,e,b,_⟩
 exact ⟨v,rfl,e,b.none⟩
end Go.Proofs.YtiminkommimgdaaGreatDoor
namespace Go.Proofs.YtiminkommimgdaaGreatDoor
open Go.RowKit Go.Extern.Stop Go.Stop Go.Extern
theorem f64:Fz 64 9223372036854775808 9218868437227405312 52 2047 (-1074):=.inr ⟨rfl,rfl,rfl,rfl,rfl,rfl⟩
theorem w18a:prA 9223372036854775808 52 2047 (-1074) [48,46,49]=(4591870180066957722,0):=by decide +kernel
theorem w18b:prA 9223372036854775808 52 2047 (-1074) [49,101,52,48,48]=(9218868437227405312,4):=by decide +kernel
theorem w18c:prA 9223372036854775808 52 2047 (-1074) [48,120,49,112,45,49,48,55,52]=(1,0):=by decide +kernel
theorem w18d:pxA 9223372036854775808 52 2047 (-1074) [50,46,53,107,103]=(4612811918334230528,3,0):=by decide +kernel
theorem ErV.nil {w:World}{c t:ByteArray}{v:Value}(h:ErV w 0 c t v):v=.nilIface:=by
 rcases h with h | h
 · exact h.2
 · exact absurd rfl h.1
theorem works18 (w:World) (hT:Tab w) (hg:ErrT w):Cb 13 #[] w (.bool true):=by
 have P1:=fun W (h:Tab W)=>parse_nil f64 h (l:=[48,46,49]) (by decide)
 have P2:=fun W (h:Tab W)=>parse_nil f64 h (l:=[49,101,52,48,48]) (by decide)
 have P3:=fun W (h:Tab W)=>parse_nil f64 h (l:=[48,120,49,112,45,49,48,55,52]) (by decide)
 have P4:=fun W (h:Tab W)=>prefix_ok f64 (.inr ⟨rfl,rfl,rfl,rfl,rfl,rfl⟩) h (l:=[50,46,53,107,103]) (by decide)
 rw [w18a] at P1
 rw [w18b] at P2
 rw [w18c] at P3
 rw [w18d] at P4
 have HT:Hid (Tab w∧ErrT w):=⟨hT,hg⟩
 clear hT hg
 go_enter Tryz.func13,Tryz.ntmps13
 go_wp2_with fail
 refine (P1 _ HT.out.1).mono ?_
 rintro o w1 ⟨v1,rfl,e1,b1⟩
 obtain rfl:=e1.nil
 have B1:Hid (Bl w w1):=b1
 clear b1 e1 P1
 go_wp2_with fail
 refine (P2 _ (HT.out.1.next B1.out)).mono ?_
 rintro o w2 ⟨v2,rfl,e2,b2⟩
 have B2:Hid (Bl w w2):=B1.out.trans (b2.mono B1.out.size)
 have E2:Hid (ErV w2 4 cPrs (sB [49,101,52,48,48]) v2):=e2
 clear b2 e2 P2
 go_wp2_with fail
 refine (P3 _ (HT.out.1.next B2.out)).mono ?_
 rintro o w3 ⟨v3,rfl,e3,b3⟩
 obtain rfl:=e3.nil
 have B3:Hid (Bl w w3):=B2.out.trans (b3.mono B2.out.size)
 have E3:Hid (ErV w3 4 cPrs (sB [49,101,52,48,48]) v2):=E2.out.below b3 (Nat.le_refl _)
 clear b3 e3 P3
 go_wp2_with fail
 refine (P4 _ (HT.out.1.next B3.out)).mono ?_
 rintro o w4 ⟨v4,rfl,e4,b4⟩
 obtain rfl:=e4.nil
 have B4:Hid (Bl w w4):=B3.out.trans (b4.mono B3.out.size)
 have E4:Hid (ErV w4 4 cPrs (sB [49,101,52,48,48]) v2):=E3.out.below b4 (Nat.le_refl _)
 clear b4 e4 P4
 have TL:=told18_any E4.out (HT.out.2.below B4.out HT.out.2.pos)
 unfold cPrs at TL
 go_wp2_with fail
 refine TL.mono ?_
 rintro o w5 ⟨rfl,b5⟩
 have B5:Hid (Bl w w5):=B4.out.trans (b5.mono B4.out.size)
 clear b5 TL
 go_wp2
 go_ret
 exact ⟨rfl,B5.out⟩
end Go.Proofs.YtiminkommimgdaaGreatDoor
namespace Go.Proofs.YtiminkommimgdaaGreatDoor
open Go.RowKit
def ltB (most far k:Int) (u:Bool) (n q:Int):Bool:=decide (k=1∧u=false∧(0:Int)<n∧n≤most ∧ -far≤q - n∧q - n≤far)
theorem light_32 {z : Int} (hz : z = 32) {c : Bool} {k : Int} {d : ByteArray} {q : Int} {u : Bool} {m : Nat} {e : Int} {r : Bool} (hk : k = 1 → d.size ≤ 800 ∧ -1099511627776 ≤ q ∧ q ≤ 1099511627776) (w : World) :
    Calls Tryz.prog 18 #[ptV c k d q u (m : Int) e r, .int .i64 z] w fun o w' => o = .returned (.bool (ltB 7 10 k u (d.size : Int) q)) ∧ Below w.heap.size w w' := by
  have B0 : Hid (Below w.heap.size w (w.alloc (.cells #[.bool c, .int .i64 k, .string d, .int .i64 q, .bool u, .int .u64 (m : Int), .int .i64 e, .bool r] 41))) := (Below.refl _ _).alloc (Nat.le_refl _) _
  have G0 : Hid (PtB (w.alloc (.cells #[.bool c, .int .i64 k, .string d, .int .i64 q, .bool u, .int .u64 (m : Int), .int .i64 e, .bool r] 41)) w.heap.size c k d q u (m : Int) e r) := PtB.new w _ _ _ _ _ _ _ _ _
  unfold ptV
  obtain ⟨_, a0, a1, a2, a3, a4, a5, a6, a7⟩ := G0.out
  have z0 : (z == 32) = true := by rw [hz]; rfl
  clear hz
  by_cases h1 : k = 1
  · obtain ⟨s8, q0, q1⟩ := hk h1
    have k1 : (k == 1) = true := by rw [h1]; rfl
    have hw : wrap64 (q - (d.size : Int)) = q - (d.size : Int) := by unfold wrap64; omega
    have H1 : Hid (k = 1) := h1
    clear hk s8 q0 q1 h1
    cases u with
    | true =>
      rw [show ltB 7 10 k true (d.size : Int) q = false from decide_eq_false fun h => by cases h.2.1]
      go_enter Tryz.func18, Tryz.ntmps18
      go_wp2
      go_ret
      exact ⟨rfl, B0.out⟩
    | false =>
      by_cases h3 : (0 : Int) < (d.size : Int)
      · by_cases h4 : (d.size : Int) ≤ 7
        · by_cases h5 : -10 ≤ q - (d.size : Int)
          · by_cases h6 : q - (d.size : Int) ≤ 10
            · rw [show ltB 7 10 k false (d.size : Int) q = true from decide_eq_true ⟨H1.out, rfl, h3, h4, h5, h6⟩]
              go_enter Tryz.func18, Tryz.ntmps18
              go_wp2
              go_ret
              exact ⟨rfl, B0.out⟩
            · rw [show ltB 7 10 k false (d.size : Int) q = false from decide_eq_false fun h => h6 h.2.2.2.2.2]
              go_enter Tryz.func18, Tryz.ntmps18
              go_wp2
              go_ret
              exact ⟨rfl, B0.out⟩
          · rw [show ltB 7 10 k false (d.size : Int) q = false from decide_eq_false fun h => h5 h.2.2.2.2.1]
            go_enter Tryz.func18, Tryz.ntmps18
            go_wp2
            go_ret
            exact ⟨rfl, B0.out⟩
        · rw [show ltB 7 10 k false (d.size : Int) q = false from decide_eq_false fun h => h4 h.2.2.2.1]
          go_enter Tryz.func18, Tryz.ntmps18
          go_wp2
          go_ret
          exact ⟨rfl, B0.out⟩
      · rw [show ltB 7 10 k false (d.size : Int) q = false from decide_eq_false fun h => h3 h.2.2.1]
        go_enter Tryz.func18, Tryz.ntmps18
        go_wp2
        go_ret
        exact ⟨rfl, B0.out⟩
  · have k1 : (k == 1) = false := beq_eq_false_iff_ne.mpr h1
    clear hk
    rw [show ltB 7 10 k u (d.size : Int) q = false from decide_eq_false fun h => h1 h.1]
    go_enter Tryz.func18, Tryz.ntmps18
    go_wp2
    go_ret
    exact ⟨rfl, B0.out⟩
theorem light_64 {z : Int} (hz : z ≠ 32) {c : Bool} {k : Int} {d : ByteArray} {q : Int} {u : Bool} {m : Nat} {e : Int} {r : Bool} (hk : k = 1 → d.size ≤ 800 ∧ -1099511627776 ≤ q ∧ q ≤ 1099511627776) (w : World) :
    Calls Tryz.prog 18 #[ptV c k d q u (m : Int) e r, .int .i64 z] w fun o w' => o = .returned (.bool (ltB 15 22 k u (d.size : Int) q)) ∧ Below w.heap.size w w' := by
  have B0 : Hid (Below w.heap.size w (w.alloc (.cells #[.bool c, .int .i64 k, .string d, .int .i64 q, .bool u, .int .u64 (m : Int), .int .i64 e, .bool r] 41))) := (Below.refl _ _).alloc (Nat.le_refl _) _
  have G0 : Hid (PtB (w.alloc (.cells #[.bool c, .int .i64 k, .string d, .int .i64 q, .bool u, .int .u64 (m : Int), .int .i64 e, .bool r] 41)) w.heap.size c k d q u (m : Int) e r) := PtB.new w _ _ _ _ _ _ _ _ _
  unfold ptV
  obtain ⟨_, a0, a1, a2, a3, a4, a5, a6, a7⟩ := G0.out
  have z0 : (z == 32) = false := beq_eq_false_iff_ne.mpr hz
  clear hz
  by_cases h1 : k = 1
  · obtain ⟨s8, q0, q1⟩ := hk h1
    have k1 : (k == 1) = true := by rw [h1]; rfl
    have hw : wrap64 (q - (d.size : Int)) = q - (d.size : Int) := by unfold wrap64; omega
    have H1 : Hid (k = 1) := h1
    clear hk s8 q0 q1 h1
    cases u with
    | true =>
      rw [show ltB 15 22 k true (d.size : Int) q = false from decide_eq_false fun h => by cases h.2.1]
      go_enter Tryz.func18, Tryz.ntmps18
      go_wp2
      go_ret
      exact ⟨rfl, B0.out⟩
    | false =>
      by_cases h3 : (0 : Int) < (d.size : Int)
      · by_cases h4 : (d.size : Int) ≤ 15
        · by_cases h5 : -22 ≤ q - (d.size : Int)
          · by_cases h6 : q - (d.size : Int) ≤ 22
            · rw [show ltB 15 22 k false (d.size : Int) q = true from decide_eq_true ⟨H1.out, rfl, h3, h4, h5, h6⟩]
              go_enter Tryz.func18, Tryz.ntmps18
              go_wp2
              go_ret
              exact ⟨rfl, B0.out⟩
            · rw [show ltB 15 22 k false (d.size : Int) q = false from decide_eq_false fun h => h6 h.2.2.2.2.2]
              go_enter Tryz.func18, Tryz.ntmps18
              go_wp2
              go_ret
              exact ⟨rfl, B0.out⟩
          · rw [show ltB 15 22 k false (d.size : Int) q = false from decide_eq_false fun h => h5 h.2.2.2.2.1]
            go_enter Tryz.func18, Tryz.ntmps18
            go_wp2
            go_ret
            exact ⟨rfl, B0.out⟩
        · rw [show ltB 15 22 k false (d.size : Int) q = false from decide_eq_false fun h => h4 h.2.2.2.1]
          go_enter Tryz.func18, Tryz.ntmps18
          go_wp2
          go_ret
          exact ⟨rfl, B0.out⟩
      · rw [show ltB 15 22 k false (d.size : Int) q = false from decide_eq_false fun h => h3 h.2.2.1]
        go_enter Tryz.func18, Tryz.ntmps18
        go_wp2
        go_ret
        exact ⟨rfl, B0.out⟩
  · have k1 : (k == 1) = false := beq_eq_false_iff_ne.mpr h1
    clear hk
    rw [show ltB 15 22 k u (d.size : Int) q = false from decide_eq_false fun h => h1 h.1]
    go_enter Tryz.func18, Tryz.ntmps18
    go_wp2
    go_ret
    exact ⟨rfl, B0.out⟩
theorem prd_no {s:ByteArray}{z:Int}{A:Nat}{k:Int}{w:World}(hT:Tab w) (hg:ErrT w)
 (PP:∀ W b,Bl w W → MS W b 0 0 0 0 0 → w.heap.size≤b → Calls Tryz.prog 8 #[.string s,vI z,mV b] W fun o w'=>∃ v p x1 x2 x3,o=.returned (.tuple #[vU (A:Int),v])∧ErV w' k cPrs s v∧Bl w w'∧MS w' b 0 p x1 x2 x3∧p≤1024∧(x1=0∧x2=0∧x3=0))
 (SC:∀ W,Cb 15 #[.string s] W (.tuple #[.agg #[.bool false,vI 0,.string ⟨#[]⟩,vI 0,.bool false,vU 0,vI 0,.bool false],vI 3])) :
 Cb 4 #[.string s,vI z] w (.bool true):=by
 have HT:Hid (Tab w∧ErrT w):=⟨hT,hg⟩
 have WK:=fun W (h:Tab W) (h':ErrT W)=>works18 W h h'
 clear hT hg
 have NW:=new_any w
 unfold mV at *
 go_enter Tryz.func4,Tryz.ntmps4
 go_wp2_with fail
 refine NW.mono ?_
 rintro o w1 ⟨rfl,b1,m1⟩
 have PP1:=PP w1 w.heap.size b1 m1 (Nat.le_refl _)
 clear b1 m1 PP NW
 go_wp2_with fail
 refine PP1.mono ?_
 rintro o w2 ⟨v,p,x1,x2,x3,rfl,e2,b2,m2,p2,rd⟩
 clear PP1
 clear e2
 have B2:Hid (Bl w w2):=b2
 have M2:Hid (MS w2 w.heap.size 0 p x1 x2 x3):=m2
 have pl:¬ (1024:Int)<p:=by omega
 clear b2 m2 p2
 go_wp2_with fail
 refine (SC _).mono ?_
 rintro o w3 ⟨rfl,b3⟩
 have BA:Hid (Bl w2 (w3.alloc (.cells #[.bool false,vI 0,.string ⟨#[]⟩,vI 0,.bool false,vU 0,vI 0,.bool false] 41))):=b3.alloc b3.size _
 have G3:Hid (PtB (w3.alloc (.cells #[.bool false,vI 0,.string ⟨#[]⟩,vI 0,.bool false,vU 0,vI 0,.bool false] 41)) w3.heap.size false 0 ⟨#[]⟩ 0 false 0 0 false):=PtB.new _ _ _ _ _ _ _ _ _ _
 have B3:Hid (Bl w (w3.alloc (.cells #[.bool false,vI 0,.string ⟨#[]⟩,vI 0,.bool false,vU 0,vI 0,.bool false] 41))):=B2.out.trans (BA.out.mono B2.out.size)
 have M3:Hid (MS (w3.alloc (.cells #[.bool false,vI 0,.string ⟨#[]⟩,vI 0,.bool false,vU 0,vI 0,.bool false] 41)) w.heap.size 0 p x1 x2 x3):=M2.out.step BA.out
 clear b3 BA
 obtain ⟨_,a0,a1,a2,a3,a4,a5,a6,a7⟩:=G3.out
 have TA:=tally_at _ M3.out
 unfold mV tV at TA
 go_wp2_with fail
 refine TA.mono ?_
 rintro o w6 ⟨rfl,b6⟩
 obtain ⟨rfl,rfl,rfl⟩:=rd
 have B6:Hid (Bl w w6):=B3.out.trans (b6.mono B3.out.size)
 have G6:Hid (PtB w6 w3.heap.size false 0 ⟨#[]⟩ 0 false 0 0 false):=G3.out.step b6
 have BT:Hid (Bl w6 (w6.alloc (.cells #[vI 0,vI p,vI 0,vI 0,vI 0] 46))):=bz _ _
 have G7:Hid (PtB (w6.alloc (.cells #[vI 0,vI p,vI 0,vI 0,vI 0] 46)) w3.heap.size false 0 ⟨#[]⟩ 0 false 0 0 false):=G6.out.step BT.out
 have B7:Hid (Bl w (w6.alloc (.cells #[vI 0,vI p,vI 0,vI 0,vI 0] 46))):=B6.out.trans (BT.out.mono B6.out.size)
 clear b6 a0 a1 a2 a3 a4 a5 a6 a7 TA G6 G3
 obtain ⟨_,a0,a1,a2,a3,a4,a5,a6,a7⟩:=G7.out
 go_wp2_with fail
 refine (WK _ (HT.out.1.next B7.out) (HT.out.2.below B7.out HT.out.2.pos)).mono ?_
 rintro o w9 ⟨rfl,b9⟩
 have B9:Hid (Bl w w9):=B7.out.trans (b9.mono B7.out.size)
 clear b9
 go_wp2
 go_ret
 exact ⟨rfl,B9.out⟩
theorem prd_five {s:ByteArray}{z:Int}{A:Nat}{c:Bool}{kd:Int}{d:ByteArray}{q:Int}{u:Bool}{m:Nat}{e:Int}{r:Bool}{lb:Bool}{w:World}(hT:Tab w) (hg:ErrT w) (LI:∀ W,Cb 18 #[ptV c kd d q u (m:Int) e r,vI z] W (.bool lb))
 (PP:∀ W b,Bl w W → MS W b 0 0 0 0 0 → w.heap.size≤b → Calls Tryz.prog 8 #[.string s,vI z,mV b] W fun o w'=>∃ v p x1 x2 x3,o=.returned (.tuple #[vU (A:Int),v])∧ErV w' 5 cPrs s v∧Bl w w'∧MS w' b 0 p x1 x2 x3∧p≤1024∧(x1=0∧x2=0∧x3=0))
 (SC:∀ W,Cb 15 #[.string s] W (.tuple #[ptV c kd d q u (m:Int) e r,vI 0])) :
 Cb 4 #[.string s,vI z] w (.bool true):=by
 have HT:Hid (Tab w∧ErrT w):=⟨hT,hg⟩
 have WK:=fun W (h:Tab W) (h':ErrT W)=>works18 W h h'
 clear hT hg
 have NW:=new_any w
 unfold mV at *
 unfold ptV at *
 go_enter Tryz.func4,Tryz.ntmps4
 go_wp2_with fail
 refine NW.mono ?_
 rintro o w1 ⟨rfl,b1,m1⟩
 have PP1:=PP w1 w.heap.size b1 m1 (Nat.le_refl _)
 clear b1 m1 PP NW
 go_wp2_with fail
 refine PP1.mono ?_
 rintro o w2 ⟨v,p,x1,x2,x3,rfl,e2,b2,m2,p2,rd⟩
 clear PP1
 have E2:Hid (ErV w2 5 cPrs s v):=e2
 obtain ⟨T0,y0,rfl⟩:∃ T y,v=.iface T y:=by
  rcases e2 with ⟨h,_⟩ | ⟨_,h⟩
  · exact absurd h (by decide)
  · exact Ch.iface h
 clear e2
 have B2:Hid (Bl w w2):=b2
 have M2:Hid (MS w2 w.heap.size 0 p x1 x2 x3):=m2
 have pl:¬ (1024:Int)<p:=by omega
 clear b2 m2 p2
 go_wp2_with fail
 refine (SC _).mono ?_
 rintro o w3 ⟨rfl,b3⟩
 have BA:Hid (Bl w2 (w3.alloc (.cells #[.bool c,vI kd,.string d,vI q,.bool u,vU (m:Int),vI e,.bool r] 41))):=b3.alloc b3.size _
 have G3:Hid (PtB (w3.alloc (.cells #[.bool c,vI kd,.string d,vI q,.bool u,vU (m:Int),vI e,.bool r] 41)) w3.heap.size c kd d q u (m:Int) e r):=PtB.new _ _ _ _ _ _ _ _ _ _
 have B3:Hid (Bl w (w3.alloc (.cells #[.bool c,vI kd,.string d,vI q,.bool u,vU (m:Int),vI e,.bool r] 41))):=B2.out.trans (BA.out.mono B2.out.size)
 have M3:Hid (MS (w3.alloc (.cells #[.bool c,vI kd,.string d,vI q,.bool u,vU (m:Int),vI e,.bool r] 41)) w.heap.size 0 p x1 x2 x3):=M2.out.step BA.out
 have E3:Hid (ErV (w3.alloc (.cells #[.bool c,vI kd,.string d,vI q,.bool u,vU (m:Int),vI e,.bool r] 41)) 5 cPrs s (.iface T0 y0)):=E2.out.below BA.out (Nat.le_refl _)
 clear E2
 have NM:Cb 16 #[.iface T0 y0] (w3.alloc (.cells #[.bool c,vI kd,.string d,vI q,.bool u,vU (m:Int),vI e,.bool r] 41)) (vI 5):=by
  rcases E3.out with ⟨h,_⟩ | ⟨_,h⟩
  · exact absurd h (by decide)
  · exact num_ch h (HT.out.2.below B3.out HT.out.2.pos)
 clear b3 BA
 obtain ⟨_,a0,a1,a2,a3,a4,a5,a6,a7⟩:=G3.out
 go_wp2_with fail
 refine NM.mono ?_
 rintro o w5 ⟨rfl,b5⟩
 have B5:Hid (Bl w w5):=B3.out.trans (b5.mono B3.out.size)
 have M5:Hid (MS w5 w.heap.size 0 p x1 x2 x3):=M3.out.step b5
 have G5:Hid (PtB w5 w3.heap.size c kd d q u (m:Int) e r):=G3.out.step b5
 clear b5 a0 a1 a2 a3 a4 a5 a6 a7 NM E3
 obtain ⟨_,a0,a1,a2,a3,a4,a5,a6,a7⟩:=G5.out
 have TA:=tally_at _ M5.out
 unfold mV tV at TA
 go_wp2_with fail
 refine TA.mono ?_
 rintro o w6 ⟨rfl,b6⟩
 obtain ⟨rfl,rfl,rfl⟩:=rd
 have B6:Hid (Bl w w6):=B5.out.trans (b6.mono B5.out.size)
 have G6:Hid (PtB w6 w3.heap.size c kd d q u (m:Int) e r):=G5.out.step b6
 have BT:Hid (Bl w6 (w6.alloc (.cells #[vI 0,vI p,vI 0,vI 0,vI 0] 46))):=bz _ _
 have G7:Hid (PtB (w6.alloc (.cells #[vI 0,vI p,vI 0,vI 0,vI 0] 46)) w3.heap.size c kd d q u (m:Int) e r):=G6.out.step BT.out
 have B7:Hid (Bl w (w6.alloc (.cells #[vI 0,vI p,vI 0,vI 0,vI 0] 46))):=B6.out.trans (BT.out.mono B6.out.size)
 clear b6 a0 a1 a2 a3 a4 a5 a6 a7 TA G6 G5
 obtain ⟨_,a0,a1,a2,a3,a4,a5,a6,a7⟩:=G7.out
 have TC:∀ (o:Nat) (v:Value),(#[vI 0,vI p,vI 0,vI 0,vI 0]:Array Value)[o]?=some v → (w6.alloc (.cells #[vI 0,vI p,vI 0,vI 0,vI 0] 46)).cell? ⟨w6.heap.size,o,none⟩=some v:=fun o v h=>by simpa using h
 have c4:=TC 4 _ rfl
 clear TC
 go_wp2_with fail
 refine (LI _).mono ?_
 rintro o w8 ⟨rfl,b8⟩
 have B8:Hid (Bl w w8):=B7.out.trans (b8.mono B7.out.size)
 have d4:=(b8.cell (p:=⟨w6.heap.size,4,none⟩) (by simp)).trans c4
 clear b8 c4 a0 a1 a2 a3 a4 a5 a6 a7 LI
 cases lb
 · go_wp2_with fail
   refine (WK _ (HT.out.1.next B8.out) (HT.out.2.below B8.out HT.out.2.pos)).mono ?_
   rintro o w9 ⟨rfl,b9⟩
   have B9:Hid (Bl w w9):=B8.out.trans (b9.mono B8.out.size)
   clear b9
   go_wp2
   go_ret
   exact ⟨rfl,B9.out⟩
 · go_wp2_with fail
   refine (WK _ (HT.out.1.next B8.out) (HT.out.2.below B8.out HT.out.2.pos)).mono ?_
   rintro o w9 ⟨rfl,b9⟩
   have B9:Hid (Bl w w9):=B8.out.trans (b9.mono B8.out.size)
   clear b9
   go_wp2
   go_ret
   exact ⟨rfl,B9.out⟩
theorem prd_dec0 {s:ByteArray}{z:Int}{A:Nat}{c:Bool}{d:ByteArray}{q:Int}{u:Bool}{m:Nat}{e:Int}{r:Bool}{lb:Bool}{w:World}(hT:Tab w) (hg:ErrT w) (hd:0<d.size) (LI:∀ W,Cb 18 #[ptV c 1 d q u (m:Int) e r,vI z] W (.bool lb))
 (PP:∀ W b,Bl w W → MS W b 0 0 0 0 0 → w.heap.size≤b → Calls Tryz.prog 8 #[.string s,vI z,mV b] W fun o w'=>∃ v p x1 x2 x3,o=.returned (.tuple #[vU (A:Int),v])∧ErV w' 0 cPrs s v∧Bl w w'∧MS w' b 0 p x1 x2 x3∧p≤1024∧((x1=1∧x2=0∧x3=0) ∨ (x1=0∧x2=1∧x3=0) ∨ (x1=0∧x2=0∧x3=1∧lb=false)))
 (SC:∀ W,Cb 15 #[.string s] W (.tuple #[ptV c 1 d q u (m:Int) e r,vI 0])) :
 Cb 4 #[.string s,vI z] w (.bool true):=by
 have HT:Hid (Tab w∧ErrT w):=⟨hT,hg⟩
 have WK:=fun W (h:Tab W) (h':ErrT W)=>works18 W h h'
 clear hT hg
 have ne:d.toList.isEmpty=false:=by
  rw [list_data]
  cases h:d.data.toList with
  | nil=>exact absurd (congrArg List.length h) (by show d.size ≠ 0;omega)
  | cons a b=>rfl
 have ne2:(d.toList == ([]:List UInt8))=false:=by
  rw [beq_eq_false_iff_ne]
  intro h
  rw [h] at ne
  cases ne
 clear hd
 have NW:=new_any w
 unfold mV at *
 unfold ptV at *
 go_enter Tryz.func4,Tryz.ntmps4
 go_wp2_with fail
 refine NW.mono ?_
 rintro o w1 ⟨rfl,b1,m1⟩
 have PP1:=PP w1 w.heap.size b1 m1 (Nat.le_refl _)
 clear b1 m1 PP NW
 go_wp2_with fail
 refine PP1.mono ?_
 rintro o w2 ⟨v,p,x1,x2,x3,rfl,e2,b2,m2,p2,rd⟩
 clear PP1
 obtain rfl:=e2.nil
 clear e2
 have B2:Hid (Bl w w2):=b2
 have M2:Hid (MS w2 w.heap.size 0 p x1 x2 x3):=m2
 have pl:¬ (1024:Int)<p:=by omega
 clear b2 m2 p2
 go_wp2_with fail
 refine (SC _).mono ?_
 rintro o w3 ⟨rfl,b3⟩
 have BA:Hid (Bl w2 (w3.alloc (.cells #[.bool c,vI 1,.string d,vI q,.bool u,vU (m:Int),vI e,.bool r] 41))):=b3.alloc b3.size _
 have G3:Hid (PtB (w3.alloc (.cells #[.bool c,vI 1,.string d,vI q,.bool u,vU (m:Int),vI e,.bool r] 41)) w3.heap.size c 1 d q u (m:Int) e r):=PtB.new _ _ _ _ _ _ _ _ _ _
 have B3:Hid (Bl w (w3.alloc (.cells #[.bool c,vI 1,.string d,vI q,.bool u,vU (m:Int),vI e,.bool r] 41))):=B2.out.trans (BA.out.mono B2.out.size)
 have M3:Hid (MS (w3.alloc (.cells #[.bool c,vI 1,.string d,vI q,.bool u,vU (m:Int),vI e,.bool r] 41)) w.heap.size 0 p x1 x2 x3):=M2.out.step BA.out
 clear b3 BA
 obtain ⟨_,a0,a1,a2,a3,a4,a5,a6,a7⟩:=G3.out
 have TA:=tally_at _ M3.out
 unfold mV tV at TA
 go_wp2_with fail
 refine TA.mono ?_
 rintro o w6 ⟨rfl,b6⟩
 rcases rd with ⟨rfl,rfl,rfl⟩ | ⟨rfl,rfl,rfl⟩ | ⟨rfl,rfl,rfl,rfl⟩
 · have B6:Hid (Bl w w6):=B3.out.trans (b6.mono B3.out.size)
   have G6:Hid (PtB w6 w3.heap.size c 1 d q u (m:Int) e r):=G3.out.step b6
   have BT:Hid (Bl w6 (w6.alloc (.cells #[vI 0,vI p,vI 1,vI 0,vI 0] 46))):=bz _ _
   have G7:Hid (PtB (w6.alloc (.cells #[vI 0,vI p,vI 1,vI 0,vI 0] 46)) w3.heap.size c 1 d q u (m:Int) e r):=G6.out.step BT.out
   have B7:Hid (Bl w (w6.alloc (.cells #[vI 0,vI p,vI 1,vI 0,vI 0] 46))):=B6.out.trans (BT.out.mono B6.out.size)
   clear b6 a0 a1 a2 a3 a4 a5 a6 a7 TA G6 G3
   obtain ⟨_,a0,a1,a2,a3,a4,a5,a6,a7⟩:=G7.out
   have TC:∀ (o:Nat) (v:Value),(#[vI 0,vI p,vI 1,vI 0,vI 0]:Array Value)[o]?=some v → (w6.alloc (.cells #[vI 0,vI p,vI 1,vI 0,vI 0] 46)).cell? ⟨w6.heap.size,o,none⟩=some v:=fun o v h=>by simpa using h
   have c4:=TC 4 _ rfl
   clear TC
   go_wp2_with fail
   refine (LI _).mono ?_
   rintro o w8 ⟨rfl,b8⟩
   have B8:Hid (Bl w w8):=B7.out.trans (b8.mono B7.out.size)
   have d4:=(b8.cell (p:=⟨w6.heap.size,4,none⟩) (by simp)).trans c4
   clear b8 c4 a0 a1 a2 a3 a4 a5 a6 a7 LI
   cases lb
   · go_wp2_with fail
     refine (WK _ (HT.out.1.next B8.out) (HT.out.2.below B8.out HT.out.2.pos)).mono ?_
     rintro o w9 ⟨rfl,b9⟩
     have B9:Hid (Bl w w9):=B8.out.trans (b9.mono B8.out.size)
     clear b9
     go_wp2
     go_ret
     exact ⟨rfl,B9.out⟩
   · go_wp2_with fail
     refine (WK _ (HT.out.1.next B8.out) (HT.out.2.below B8.out HT.out.2.pos)).mono ?_
     rintro o w9 ⟨rfl,b9⟩
     have B9:Hid (Bl w w9):=B8.out.trans (b9.mono B8.out.size)
     clear b9
     go_wp2
     go_ret
     exact ⟨rfl,B9.out⟩
 · have B6:Hid (Bl w w6):=B3.out.trans (b6.mono B3.out.size)
   have G6:Hid (PtB w6 w3.heap.size c 1 d q u (m:Int) e r):=G3.out.step b6
   have BT:Hid (Bl w6 (w6.alloc (.cells #[vI 0,vI p,vI 0,vI 1,vI 0] 46))):=bz _ _
   have G7:Hid (PtB (w6.alloc (.cells #[vI 0,vI p,vI 0,vI 1,vI 0] 46)) w3.heap.size c 1 d q u (m:Int) e r):=G6.out.step BT.out
   have B7:Hid (Bl w (w6.alloc (.cells #[vI 0,vI p,vI 0,vI 1,vI 0] 46))):=B6.out.trans (BT.out.mono B6.out.size)
   clear b6 a0 a1 a2 a3 a4 a5 a6 a7 TA G6 G3
   obtain ⟨_,a0,a1,a2,a3,a4,a5,a6,a7⟩:=G7.out
   have TC:∀ (o:Nat) (v:Value),(#[vI 0,vI p,vI 0,vI 1,vI 0]:Array Value)[o]?=some v → (w6.alloc (.cells #[vI 0,vI p,vI 0,vI 1,vI 0] 46)).cell? ⟨w6.heap.size,o,none⟩=some v:=fun o v h=>by simpa using h
   have c4:=TC 4 _ rfl
   clear TC
   go_wp2_with fail
   refine (LI _).mono ?_
   rintro o w8 ⟨rfl,b8⟩
   have B8:Hid (Bl w w8):=B7.out.trans (b8.mono B7.out.size)
   have d4:=(b8.cell (p:=⟨w6.heap.size,4,none⟩) (by simp)).trans c4
   clear b8 c4 a0 a1 a2 a3 a4 a5 a6 a7 LI
   cases lb
   · go_wp2_with fail
     refine (WK _ (HT.out.1.next B8.out) (HT.out.2.below B8.out HT.out.2.pos)).mono ?_
     rintro o w9 ⟨rfl,b9⟩
     have B9:Hid (Bl w w9):=B8.out.trans (b9.mono B8.out.size)
     clear b9
     go_wp2
     go_ret
     exact ⟨rfl,B9.out⟩
   · go_wp2_with fail
     refine (WK _ (HT.out.1.next B8.out) (HT.out.2.below B8.out HT.out.2.pos)).mono ?_
     rintro o w9 ⟨rfl,b9⟩
     have B9:Hid (Bl w w9):=B8.out.trans (b9.mono B8.out.size)
     clear b9
     go_wp2
     go_ret
     exact ⟨rfl,B9.out⟩
 · have B6:Hid (Bl w w6):=B3.out.trans (b6.mono B3.out.size)
   have G6:Hid (PtB w6 w3.heap.size c 1 d q u (m:Int) e r):=G3.out.step b6
   have BT:Hid (Bl w6 (w6.alloc (.cells #[vI 0,vI p,vI 0,vI 0,vI 1] 46))):=bz _ _
   have G7:Hid (PtB (w6.alloc (.cells #[vI 0,vI p,vI 0,vI 0,vI 1] 46)) w3.heap.size c 1 d q u (m:Int) e r):=G6.out.step BT.out
   have B7:Hid (Bl w (w6.alloc (.cells #[vI 0,vI p,vI 0,vI 0,vI 1] 46))):=B6.out.trans (BT.out.mono B6.out.size)
   clear b6 a0 a1 a2 a3 a4 a5 a6 a7 TA G6 G3
   obtain ⟨_,a0,a1,a2,a3,a4,a5,a6,a7⟩:=G7.out
   have TC:∀ (o:Nat) (v:Value),(#[vI 0,vI p,vI 0,vI 0,vI 1]:Array Value)[o]?=some v → (w6.alloc (.cells #[vI 0,vI p,vI 0,vI 0,vI 1] 46)).cell? ⟨w6.heap.size,o,none⟩=some v:=fun o v h=>by simpa using h
   have c4:=TC 4 _ rfl
   clear TC
   go_wp2_with fail
   refine (LI _).mono ?_
   rintro o w8 ⟨rfl,b8⟩
   have B8:Hid (Bl w w8):=B7.out.trans (b8.mono B7.out.size)
   have d4:=(b8.cell (p:=⟨w6.heap.size,4,none⟩) (by simp)).trans c4
   clear b8 c4 a0 a1 a2 a3 a4 a5 a6 a7 LI
   go_wp2_with fail
   refine (WK _ (HT.out.1.next B8.out) (HT.out.2.below B8.out HT.out.2.pos)).mono ?_
   rintro o w9 ⟨rfl,b9⟩
   have B9:Hid (Bl w w9):=B8.out.trans (b9.mono B8.out.size)
   clear b9
   go_wp2
   go_ret
   exact ⟨rfl,B9.out⟩
theorem prd_dec4 {s:ByteArray}{z:Int}{A:Nat}{c:Bool}{d:ByteArray}{q:Int}{u:Bool}{m:Nat}{e:Int}{r:Bool}{lb:Bool}{w:World}(hT:Tab w) (hg:ErrT w) (hd:0<d.size) (LI:∀ W,Cb 18 #[ptV c 1 d q u (m:Int) e r,vI z] W (.bool lb))
 (PP:∀ W b,Bl w W → MS W b 0 0 0 0 0 → w.heap.size≤b → Calls Tryz.prog 8 #[.string s,vI z,mV b] W fun o w'=>∃ v p x1 x2 x3,o=.returned (.tuple #[vU (A:Int),v])∧ErV w' 4 cPrs s v∧Bl w w'∧MS w' b 0 p x1 x2 x3∧p≤1024∧((x1=1∧x2=0∧x3=0) ∨ (x1=0∧x2=1∧x3=0) ∨ (x1=0∧x2=0∧x3=1∧lb=false)))
 (SC:∀ W,Cb 15 #[.string s] W (.tuple #[ptV c 1 d q u (m:Int) e r,vI 0])) :
 Cb 4 #[.string s,vI z] w (.bool true):=by
 have HT:Hid (Tab w∧ErrT w):=⟨hT,hg⟩
 have WK:=fun W (h:Tab W) (h':ErrT W)=>works18 W h h'
 clear hT hg
 have ne:d.toList.isEmpty=false:=by
  rw [list_data]
  cases h:d.data.toList with
  | nil=>exact absurd (congrArg List.length h) (by show d.size ≠ 0;omega)
  | cons a b=>rfl
 have ne2:(d.toList == ([]:List UInt8))=false:=by
  rw [beq_eq_false_iff_ne]
  intro h
  rw [h] at ne
  cases ne
 clear hd
 have NW:=new_any w
 unfold mV at *
 unfold ptV at *
 go_enter Tryz.func4,Tryz.ntmps4
 go_wp2_with fail
 refine NW.mono ?_
 rintro o w1 ⟨rfl,b1,m1⟩
 have PP1:=PP w1 w.heap.size b1 m1 (Nat.le_refl _)
 clear b1 m1 PP NW
 go_wp2_with fail
 refine PP1.mono ?_
 rintro o w2 ⟨v,p,x1,x2,x3,rfl,e2,b2,m2,p2,rd⟩
 clear PP1
 have E2:Hid (ErV w2 4 cPrs s v):=e2
 obtain ⟨T0,y0,rfl⟩:∃ T y,v=.iface T y:=by
  rcases e2 with ⟨h,_⟩ | ⟨_,h⟩
  · exact absurd h (by decide)
  · exact Ch.iface h
 clear e2
 have B2:Hid (Bl w w2):=b2
 have M2:Hid (MS w2 w.heap.size 0 p x1 x2 x3):=m2
 have pl:¬ (1024:Int)<p:=by omega
 clear b2 m2 p2
 go_wp2_with fail
 refine (SC _).mono ?_
 rintro o w3 ⟨rfl,b3⟩
 have BA:Hid (Bl w2 (w3.alloc (.cells #[.bool c,vI 1,.string d,vI q,.bool u,vU (m:Int),vI e,.bool r] 41))):=b3.alloc b3.size _
 have G3:Hid (PtB (w3.alloc (.cells #[.bool c,vI 1,.string d,vI q,.bool u,vU (m:Int),vI e,.bool r] 41)) w3.heap.size c 1 d q u (m:Int) e r):=PtB.new _ _ _ _ _ _ _ _ _ _
 have B3:Hid (Bl w (w3.alloc (.cells #[.bool c,vI 1,.string d,vI q,.bool u,vU (m:Int),vI e,.bool r] 41))):=B2.out.trans (BA.out.mono B2.out.size)
 have M3:Hid (MS (w3.alloc (.cells #[.bool c,vI 1,.string d,vI q,.bool u,vU (m:Int),vI e,.bool r] 41)) w.heap.size 0 p x1 x2 x3):=M2.out.step BA.out
 have E3:Hid (ErV (w3.alloc (.cells #[.bool c,vI 1,.string d,vI q,.bool u,vU (m:Int),vI e,.bool r] 41)) 4 cPrs s (.iface T0 y0)):=E2.out.below BA.out (Nat.le_refl _)
 clear E2
 have NM:Cb 16 #[.iface T0 y0] (w3.alloc (.cells #[.bool c,vI 1,.string d,vI q,.bool u,vU (m:Int),vI e,.bool r] 41)) (vI 4):=by
  rcases E3.out with ⟨h,_⟩ | ⟨_,h⟩
  · exact absurd h (by decide)
  · exact num_ch h (HT.out.2.below B3.out HT.out.2.pos)
 clear b3 BA
 obtain ⟨_,a0,a1,a2,a3,a4,a5,a6,a7⟩:=G3.out
 go_wp2_with fail
 refine NM.mono ?_
 rintro o w5 ⟨rfl,b5⟩
 have B5:Hid (Bl w w5):=B3.out.trans (b5.mono B3.out.size)
 have M5:Hid (MS w5 w.heap.size 0 p x1 x2 x3):=M3.out.step b5
 have G5:Hid (PtB w5 w3.heap.size c 1 d q u (m:Int) e r):=G3.out.step b5
 clear b5 a0 a1 a2 a3 a4 a5 a6 a7 NM E3
 obtain ⟨_,a0,a1,a2,a3,a4,a5,a6,a7⟩:=G5.out
 have TA:=tally_at _ M5.out
 unfold mV tV at TA
 go_wp2_with fail
 refine TA.mono ?_
 rintro o w6 ⟨rfl,b6⟩
 rcases rd with ⟨rfl,rfl,rfl⟩ | ⟨rfl,rfl,rfl⟩ | ⟨rfl,rfl,rfl,rfl⟩
 · have B6:Hid (Bl w w6):=B5.out.trans (b6.mono B5.out.size)
   have G6:Hid (PtB w6 w3.heap.size c 1 d q u (m:Int) e r):=G5.out.step b6
   have BT:Hid (Bl w6 (w6.alloc (.cells #[vI 0,vI p,vI 1,vI 0,vI 0] 46))):=bz _ _
   have G7:Hid (PtB (w6.alloc (.cells #[vI 0,vI p,vI 1,vI 0,vI 0] 46)) w3.heap.size c 1 d q u (m:Int) e r):=G6.out.step BT.out
   have B7:Hid (Bl w (w6.alloc (.cells #[vI 0,vI p,vI 1,vI 0,vI 0] 46))):=B6.out.trans (BT.out.mono B6.out.size)
   clear b6 a0 a1 a2 a3 a4 a5 a6 a7 TA G6 G5
   obtain ⟨_,a0,a1,a2,a3,a4,a5,a6,a7⟩:=G7.out
   have TC:∀ (o:Nat) (v:Value),(#[vI 0,vI p,vI 1,vI 0,vI 0]:Array Value)[o]?=some v → (w6.alloc (.cells #[vI 0,vI p,vI 1,vI 0,vI 0] 46)).cell? ⟨w6.heap.size,o,none⟩=some v:=fun o v h=>by simpa using h
   have c4:=TC 4 _ rfl
   clear TC
   go_wp2_with fail
   refine (LI _).mono ?_
   rintro o w8 ⟨rfl,b8⟩
   have B8:Hid (Bl w w8):=B7.out.trans (b8.mono B7.out.size)
   have d4:=(b8.cell (p:=⟨w6.heap.size,4,none⟩) (by simp)).trans c4
   clear b8 c4 a0 a1 a2 a3 a4 a5 a6 a7 LI
   cases lb
   · go_wp2_with fail
     refine (WK _ (HT.out.1.next B8.out) (HT.out.2.below B8.out HT.out.2.pos)).mono ?_
     rintro o w9 ⟨rfl,b9⟩
     have B9:Hid (Bl w w9):=B8.out.trans (b9.mono B8.out.size)
     clear b9
     go_wp2
     go_ret
     exact ⟨rfl,B9.out⟩
   · go_wp2_with fail
     refine (WK _ (HT.out.1.next B8.out) (HT.out.2.below B8.out HT.out.2.pos)).mono ?_
     rintro o w9 ⟨rfl,b9⟩
     have B9:Hid (Bl w w9):=B8.out.trans (b9.mono B8.out.size)
     clear b9
     go_wp2
     go_ret
     exact ⟨rfl,B9.out⟩
 · have B6:Hid (Bl w w6):=B5.out.trans (b6.mono B5.out.size)
   have G6:Hid (PtB w6 w3.heap.size c 1 d q u (m:Int) e r):=G5.out.step b6
   have BT:Hid (Bl w6 (w6.alloc (.cells #[vI 0,vI p,vI 0,vI 1,vI 0] 46))):=bz _ _
   have G7:Hid (PtB (w6.alloc (.cells #[vI 0,vI p,vI 0,vI 1,vI 0] 46)) w3.heap.size c 1 d q u (m:Int) e r):=G6.out.step BT.out
   have B7:Hid (Bl w (w6.alloc (.cells #[vI 0,vI p,vI 0,vI 1,vI 0] 46))):=B6.out.trans (BT.out.mono B6.out.size)
   clear b6 a0 a1 a2 a3 a4 a5 a6 a7 TA G6 G5
   obtain ⟨_,a0,a1,a2,a3,a4,a5,a6,a7⟩:=G7.out
   have TC:∀ (o:Nat) (v:Value),(#[vI 0,vI p,vI 0,vI 1,vI 0]:Array Value)[o]?=some v → (w6.alloc (.cells #[vI 0,vI p,vI 0,vI 1,vI 0] 46)).cell? ⟨w6.heap.size,o,none⟩=some v:=fun o v h=>by simpa using h
   have c4:=TC 4 _ rfl
   clear TC
   go_wp2_with fail
   refine (LI _).mono ?_
   rintro o w8 ⟨rfl,b8⟩
   have B8:Hid (Bl w w8):=B7.out.trans (b8.mono B7.out.size)
   have d4:=(b8.cell (p:=⟨w6.heap.size,4,none⟩) (by simp)).trans c4
   clear b8 c4 a0 a1 a2 a3 a4 a5 a6 a7 LI
   cases lb
   · go_wp2_with fail
     refine (WK _ (HT.out.1.next B8.out) (HT.out.2.below B8.out HT.out.2.pos)).mono ?_
     rintro o w9 ⟨rfl,b9⟩
     have B9:Hid (Bl w w9):=B8.out.trans (b9.mono B8.out.size)
     clear b9
     go_wp2
     go_ret
     exact ⟨rfl,B9.out⟩
   · go_wp2_with fail
     refine (WK _ (HT.out.1.next B8.out) (HT.out.2.below B8.out HT.out.2.pos)).mono ?_
     rintro o w9 ⟨rfl,b9⟩
     have B9:Hid (Bl w w9):=B8.out.trans (b9.mono B8.out.size)
     clear b9
     go_wp2
     go_ret
     exact ⟨rfl,B9.out⟩
 · have B6:Hid (Bl w w6):=B5.out.trans (b6.mono B5.out.size)
   have G6:Hid (PtB w6 w3.heap.size c 1 d q u (m:Int) e r):=G5.out.step b6
   have BT:Hid (Bl w6 (w6.alloc (.cells #[vI 0,vI p,vI 0,vI 0,vI 1] 46))):=bz _ _
   have G7:Hid (PtB (w6.alloc (.cells #[vI 0,vI p,vI 0,vI 0,vI 1] 46)) w3.heap.size c 1 d q u (m:Int) e r):=G6.out.step BT.out
   have B7:Hid (Bl w (w6.alloc (.cells #[vI 0,vI p,vI 0,vI 0,vI 1] 46))):=B6.out.trans (BT.out.mono B6.out.size)
   clear b6 a0 a1 a2 a3 a4 a5 a6 a7 TA G6 G5
   obtain ⟨_,a0,a1,a2,a3,a4,a5,a6,a7⟩:=G7.out
   have TC:∀ (o:Nat) (v:Value),(#[vI 0,vI p,vI 0,vI 0,vI 1]:Array Value)[o]?=some v → (w6.alloc (.cells #[vI 0,vI p,vI 0,vI 0,vI 1] 46)).cell? ⟨w6.heap.size,o,none⟩=some v:=fun o v h=>by simpa using h
   have c4:=TC 4 _ rfl
   clear TC
   go_wp2_with fail
   refine (LI _).mono ?_
   rintro o w8 ⟨rfl,b8⟩
   have B8:Hid (Bl w w8):=B7.out.trans (b8.mono B7.out.size)
   have d4:=(b8.cell (p:=⟨w6.heap.size,4,none⟩) (by simp)).trans c4
   clear b8 c4 a0 a1 a2 a3 a4 a5 a6 a7 LI
   go_wp2_with fail
   refine (WK _ (HT.out.1.next B8.out) (HT.out.2.below B8.out HT.out.2.pos)).mono ?_
   rintro o w9 ⟨rfl,b9⟩
   have B9:Hid (Bl w w9):=B8.out.trans (b9.mono B8.out.size)
   clear b9
   go_wp2
   go_ret
   exact ⟨rfl,B9.out⟩
theorem prd_zero {s:ByteArray}{z:Int}{A:Nat}{c:Bool}{q:Int}{u:Bool}{m:Nat}{e:Int}{r:Bool}{lb:Bool}{w:World}(hT:Tab w) (hg:ErrT w) (LI:∀ W,Cb 18 #[ptV c 1 ⟨#[]⟩ q u (m:Int) e r,vI z] W (.bool lb))
 (PP:∀ W b,Bl w W → MS W b 0 0 0 0 0 → w.heap.size≤b → Calls Tryz.prog 8 #[.string s,vI z,mV b] W fun o w'=>∃ v p x1 x2 x3,o=.returned (.tuple #[vU (A:Int),v])∧ErV w' 0 cPrs s v∧Bl w w'∧MS w' b 0 p x1 x2 x3∧p≤1024∧(x1=0∧x2=0∧x3=0))
 (SC:∀ W,Cb 15 #[.string s] W (.tuple #[ptV c 1 ⟨#[]⟩ q u (m:Int) e r,vI 0])) :
 Cb 4 #[.string s,vI z] w (.bool true):=by
 have HT:Hid (Tab w∧ErrT w):=⟨hT,hg⟩
 have WK:=fun W (h:Tab W) (h':ErrT W)=>works18 W h h'
 clear hT hg
 have NW:=new_any w
 unfold mV at *
 unfold ptV at *
 go_enter Tryz.func4,Tryz.ntmps4
 go_wp2_with fail
 refine NW.mono ?_
 rintro o w1 ⟨rfl,b1,m1⟩
 have PP1:=PP w1 w.heap.size b1 m1 (Nat.le_refl _)
 clear b1 m1 PP NW
 go_wp2_with fail
 refine PP1.mono ?_
 rintro o w2 ⟨v,p,x1,x2,x3,rfl,e2,b2,m2,p2,rd⟩
 clear PP1
 obtain rfl:=e2.nil
 clear e2
 have B2:Hid (Bl w w2):=b2
 have M2:Hid (MS w2 w.heap.size 0 p x1 x2 x3):=m2
 have pl:¬ (1024:Int)<p:=by omega
 clear b2 m2 p2
 go_wp2_with fail
 refine (SC _).mono ?_
 rintro o w3 ⟨rfl,b3⟩
 have BA:Hid (Bl w2 (w3.alloc (.cells #[.bool c,vI 1,.string ⟨#[]⟩,vI q,.bool u,vU (m:Int),vI e,.bool r] 41))):=b3.alloc b3.size _
 have G3:Hid (PtB (w3.alloc (.cells #[.bool c,vI 1,.string ⟨#[]⟩,vI q,.bool u,vU (m:Int),vI e,.bool r] 41)) w3.heap.size c 1 ⟨#[]⟩ q u (m:Int) e r):=PtB.new _ _ _ _ _ _ _ _ _ _
 have B3:Hid (Bl w (w3.alloc (.cells #[.bool c,vI 1,.string ⟨#[]⟩,vI q,.bool u,vU (m:Int),vI e,.bool r] 41))):=B2.out.trans (BA.out.mono B2.out.size)
 have M3:Hid (MS (w3.alloc (.cells #[.bool c,vI 1,.string ⟨#[]⟩,vI q,.bool u,vU (m:Int),vI e,.bool r] 41)) w.heap.size 0 p x1 x2 x3):=M2.out.step BA.out
 clear b3 BA
 obtain ⟨_,a0,a1,a2,a3,a4,a5,a6,a7⟩:=G3.out
 have TA:=tally_at _ M3.out
 unfold mV tV at TA
 go_wp2_with fail
 refine TA.mono ?_
 rintro o w6 ⟨rfl,b6⟩
 obtain ⟨rfl,rfl,rfl⟩:=rd
 have B6:Hid (Bl w w6):=B3.out.trans (b6.mono B3.out.size)
 have G6:Hid (PtB w6 w3.heap.size c 1 ⟨#[]⟩ q u (m:Int) e r):=G3.out.step b6
 have BT:Hid (Bl w6 (w6.alloc (.cells #[vI 0,vI p,vI 0,vI 0,vI 0] 46))):=bz _ _
 have G7:Hid (PtB (w6.alloc (.cells #[vI 0,vI p,vI 0,vI 0,vI 0] 46)) w3.heap.size c 1 ⟨#[]⟩ q u (m:Int) e r):=G6.out.step BT.out
 have B7:Hid (Bl w (w6.alloc (.cells #[vI 0,vI p,vI 0,vI 0,vI 0] 46))):=B6.out.trans (BT.out.mono B6.out.size)
 clear b6 a0 a1 a2 a3 a4 a5 a6 a7 TA G6 G3
 obtain ⟨_,a0,a1,a2,a3,a4,a5,a6,a7⟩:=G7.out
 have TC:∀ (o:Nat) (v:Value),(#[vI 0,vI p,vI 0,vI 0,vI 0]:Array Value)[o]?=some v → (w6.alloc (.cells #[vI 0,vI p,vI 0,vI 0,vI 0] 46)).cell? ⟨w6.heap.size,o,none⟩=some v:=fun o v h=>by simpa using h
 have c4:=TC 4 _ rfl
 clear TC
 go_wp2_with fail
 refine (LI _).mono ?_
 rintro o w8 ⟨rfl,b8⟩
 have B8:Hid (Bl w w8):=B7.out.trans (b8.mono B7.out.size)
 have d4:=(b8.cell (p:=⟨w6.heap.size,4,none⟩) (by simp)).trans c4
 clear b8 c4 a0 a1 a2 a3 a4 a5 a6 a7 LI
 cases lb
 · go_wp2_with fail
   refine (WK _ (HT.out.1.next B8.out) (HT.out.2.below B8.out HT.out.2.pos)).mono ?_
   rintro o w9 ⟨rfl,b9⟩
   have B9:Hid (Bl w w9):=B8.out.trans (b9.mono B8.out.size)
   clear b9
   go_wp2
   go_ret
   exact ⟨rfl,B9.out⟩
 · go_wp2_with fail
   refine (WK _ (HT.out.1.next B8.out) (HT.out.2.below B8.out HT.out.2.pos)).mono ?_
   rintro o w9 ⟨rfl,b9⟩
   have B9:Hid (Bl w w9):=B8.out.trans (b9.mono B8.out.size)
   clear b9
   go_wp2
   go_ret
   exact ⟨rfl,B9.out⟩
theorem prd_oth0 {s:ByteArray}{z:Int}{A:Nat}{c:Bool}{kd:Int}{d:ByteArray}{q:Int}{u:Bool}{m:Nat}{e:Int}{r:Bool}{lb:Bool}{w:World}(hT:Tab w) (hg:ErrT w) (hk:kd ≠ 1) (LI:∀ W,Cb 18 #[ptV c kd d q u (m:Int) e r,vI z] W (.bool lb))
 (PP:∀ W b,Bl w W → MS W b 0 0 0 0 0 → w.heap.size≤b → Calls Tryz.prog 8 #[.string s,vI z,mV b] W fun o w'=>∃ v p x1 x2 x3,o=.returned (.tuple #[vU (A:Int),v])∧ErV w' 0 cPrs s v∧Bl w w'∧MS w' b 0 p x1 x2 x3∧p≤1024∧(x1=0∧x2=0∧x3=0))
 (SC:∀ W,Cb 15 #[.string s] W (.tuple #[ptV c kd d q u (m:Int) e r,vI 0])) :
 Cb 4 #[.string s,vI z] w (.bool true):=by
 have HT:Hid (Tab w∧ErrT w):=⟨hT,hg⟩
 have WK:=fun W (h:Tab W) (h':ErrT W)=>works18 W h h'
 clear hT hg
 have kk:(kd == 1)=false:=beq_eq_false_iff_ne.mpr hk
 clear hk
 have NW:=new_any w
 unfold mV at *
 unfold ptV at *
 go_enter Tryz.func4,Tryz.ntmps4
 go_wp2_with fail
 refine NW.mono ?_
 rintro o w1 ⟨rfl,b1,m1⟩
 have PP1:=PP w1 w.heap.size b1 m1 (Nat.le_refl _)
 clear b1 m1 PP NW
 go_wp2_with fail
 refine PP1.mono ?_
 rintro o w2 ⟨v,p,x1,x2,x3,rfl,e2,b2,m2,p2,rd⟩
 clear PP1
 obtain rfl:=e2.nil
 clear e2
 have B2:Hid (Bl w w2):=b2
 have M2:Hid (MS w2 w.heap.size 0 p x1 x2 x3):=m2
 have pl:¬ (1024:Int)<p:=by omega
 clear b2 m2 p2
 go_wp2_with fail
 refine (SC _).mono ?_
 rintro o w3 ⟨rfl,b3⟩
 have BA:Hid (Bl w2 (w3.alloc (.cells #[.bool c,vI kd,.string d,vI q,.bool u,vU (m:Int),vI e,.bool r] 41))):=b3.alloc b3.size _
 have G3:Hid (PtB (w3.alloc (.cells #[.bool c,vI kd,.string d,vI q,.bool u,vU (m:Int),vI e,.bool r] 41)) w3.heap.size c kd d q u (m:Int) e r):=PtB.new _ _ _ _ _ _ _ _ _ _
 have B3:Hid (Bl w (w3.alloc (.cells #[.bool c,vI kd,.string d,vI q,.bool u,vU (m:Int),vI e,.bool r] 41))):=B2.out.trans (BA.out.mono B2.out.size)
 have M3:Hid (MS (w3.alloc (.cells #[.bool c,vI kd,.string d,vI q,.bool u,vU (m:Int),vI e,.bool r] 41)) w.heap.size 0 p x1 x2 x3):=M2.out.step BA.out
 clear b3 BA
 obtain ⟨_,a0,a1,a2,a3,a4,a5,a6,a7⟩:=G3.out
 have TA:=tally_at _ M3.out
 unfold mV tV at TA
 go_wp2_with fail
 refine TA.mono ?_
 rintro o w6 ⟨rfl,b6⟩
 obtain ⟨rfl,rfl,rfl⟩:=rd
 have B6:Hid (Bl w w6):=B3.out.trans (b6.mono B3.out.size)
 have G6:Hid (PtB w6 w3.heap.size c kd d q u (m:Int) e r):=G3.out.step b6
 have BT:Hid (Bl w6 (w6.alloc (.cells #[vI 0,vI p,vI 0,vI 0,vI 0] 46))):=bz _ _
 have G7:Hid (PtB (w6.alloc (.cells #[vI 0,vI p,vI 0,vI 0,vI 0] 46)) w3.heap.size c kd d q u (m:Int) e r):=G6.out.step BT.out
 have B7:Hid (Bl w (w6.alloc (.cells #[vI 0,vI p,vI 0,vI 0,vI 0] 46))):=B6.out.trans (BT.out.mono B6.out.size)
 clear b6 a0 a1 a2 a3 a4 a5 a6 a7 TA G6 G3
 obtain ⟨_,a0,a1,a2,a3,a4,a5,a6,a7⟩:=G7.out
 have TC:∀ (o:Nat) (v:Value),(#[vI 0,vI p,vI 0,vI 0,vI 0]:Array Value)[o]?=some v → (w6.alloc (.cells #[vI 0,vI p,vI 0,vI 0,vI 0] 46)).cell? ⟨w6.heap.size,o,none⟩=some v:=fun o v h=>by simpa using h
 have c4:=TC 4 _ rfl
 clear TC
 go_wp2_with fail
 refine (LI _).mono ?_
 rintro o w8 ⟨rfl,b8⟩
 have B8:Hid (Bl w w8):=B7.out.trans (b8.mono B7.out.size)
 have d4:=(b8.cell (p:=⟨w6.heap.size,4,none⟩) (by simp)).trans c4
 clear b8 c4 a0 a1 a2 a3 a4 a5 a6 a7 LI
 cases lb
 · go_wp2_with fail
   refine (WK _ (HT.out.1.next B8.out) (HT.out.2.below B8.out HT.out.2.pos)).mono ?_
   rintro o w9 ⟨rfl,b9⟩
   have B9:Hid (Bl w w9):=B8.out.trans (b9.mono B8.out.size)
   clear b9
   go_wp2
   go_ret
   exact ⟨rfl,B9.out⟩
 · go_wp2_with fail
   refine (WK _ (HT.out.1.next B8.out) (HT.out.2.below B8.out HT.out.2.pos)).mono ?_
   rintro o w9 ⟨rfl,b9⟩
   have B9:Hid (Bl w w9):=B8.out.trans (b9.mono B8.out.size)
   clear b9
   go_wp2
   go_ret
   exact ⟨rfl,B9.out⟩
theorem prd_oth4 {s:ByteArray}{z:Int}{A:Nat}{c:Bool}{kd:Int}{d:ByteArray}{q:Int}{u:Bool}{m:Nat}{e:Int}{r:Bool}{lb:Bool}{w:World}(hT:Tab w) (hg:ErrT w) (hk:kd ≠ 1) (LI:∀ W,Cb 18 #[ptV c kd d q u (m:Int) e r,vI z] W (.bool lb))
 (PP:∀ W b,Bl w W → MS W b 0 0 0 0 0 → w.heap.size≤b → Calls Tryz.prog 8 #[.string s,vI z,mV b] W fun o w'=>∃ v p x1 x2 x3,o=.returned (.tuple #[vU (A:Int),v])∧ErV w' 4 cPrs s v∧Bl w w'∧MS w' b 0 p x1 x2 x3∧p≤1024∧(x1=0∧x2=0∧x3=0))
 (SC:∀ W,Cb 15 #[.string s] W (.tuple #[ptV c kd d q u (m:Int) e r,vI 0])) :
 Cb 4 #[.string s,vI z] w (.bool true):=by
 have HT:Hid (Tab w∧ErrT w):=⟨hT,hg⟩
 have WK:=fun W (h:Tab W) (h':ErrT W)=>works18 W h h'
 clear hT hg
 have kk:(kd == 1)=false:=beq_eq_false_iff_ne.mpr hk
 clear hk
 have NW:=new_any w
 unfold mV at *
 unfold ptV at *
 go_enter Tryz.func4,Tryz.ntmps4
 go_wp2_with fail
 refine NW.mono ?_
 rintro o w1 ⟨rfl,b1,m1⟩
 have PP1:=PP w1 w.heap.size b1 m1 (Nat.le_refl _)
 clear b1 m1 PP NW
 go_wp2_with fail
 refine PP1.mono ?_
 rintro o w2 ⟨v,p,x1,x2,x3,rfl,e2,b2,m2,p2,rd⟩
 clear PP1
 have E2:Hid (ErV w2 4 cPrs s v):=e2
 obtain ⟨T0,y0,rfl⟩:∃ T y,v=.iface T y:=by
  rcases e2 with ⟨h,_⟩ | ⟨_,h⟩
  · exact absurd h (by decide)
  · exact Ch.iface h
 clear e2
 have B2:Hid (Bl w w2):=b2
 have M2:Hid (MS w2 w.heap.size 0 p x1 x2 x3):=m2
 have pl:¬ (1024:Int)<p:=by omega
 clear b2 m2 p2
 go_wp2_with fail
 refine (SC _).mono ?_
 rintro o w3 ⟨rfl,b3⟩
 have BA:Hid (Bl w2 (w3.alloc (.cells #[.bool c,vI kd,.string d,vI q,.bool u,vU (m:Int),vI e,.bool r] 41))):=b3.alloc b3.size _
 have G3:Hid (PtB (w3.alloc (.cells #[.bool c,vI kd,.string d,vI q,.bool u,vU (m:Int),vI e,.bool r] 41)) w3.heap.size c kd d q u (m:Int) e r):=PtB.new _ _ _ _ _ _ _ _ _ _
 have B3:Hid (Bl w (w3.alloc (.cells #[.bool c,vI kd,.string d,vI q,.bool u,vU (m:Int),vI e,.bool r] 41))):=B2.out.trans (BA.out.mono B2.out.size)
 have M3:Hid (MS (w3.alloc (.cells #[.bool c,vI kd,.string d,vI q,.bool u,vU (m:Int),vI e,.bool r] 41)) w.heap.size 0 p x1 x2 x3):=M2.out.step BA.out
 have E3:Hid (ErV (w3.alloc (.cells #[.bool c,vI kd,.string d,vI q,.bool u,vU (m:Int),vI e,.bool r] 41)) 4 cPrs s (.iface T0 y0)):=E2.out.below BA.out (Nat.le_refl _)
 clear E2
 have NM:Cb 16 #[.iface T0 y0] (w3.alloc (.cells #[.bool c,vI kd,.string d,vI q,.bool u,vU (m:Int),vI e,.bool r] 41)) (vI 4):=by
  rcases E3.out with ⟨h,_⟩ | ⟨_,h⟩
  · exact absurd h (by decide)
  · exact num_ch h (HT.out.2.below B3.out HT.out.2.pos)
 clear b3 BA
 obtain ⟨_,a0,a1,a2,a3,a4,a5,a6,a7⟩:=G3.out
 go_wp2_with fail
 refine NM.mono ?_
 rintro o w5 ⟨rfl,b5⟩
 have B5:Hid (Bl w w5):=B3.out.trans (b5.mono B3.out.size)
 have M5:Hid (MS w5 w.heap.size 0 p x1 x2 x3):=M3.out.step b5
 have G5:Hid (PtB w5 w3.heap.size c kd d q u (m:Int) e r):=G3.out.step b5
 clear b5 a0 a1 a2 a3 a4 a5 a6 a7 NM E3
 obtain ⟨_,a0,a1,a2,a3,a4,a5,a6,a7⟩:=G5.out
 have TA:=tally_at _ M5.out
 unfold mV tV at TA
 go_wp2_with fail
 refine TA.mono ?_
 rintro o w6 ⟨rfl,b6⟩
 obtain ⟨rfl,rfl,rfl⟩:=rd
 have B6:Hid (Bl w w6):=B5.out.trans (b6.mono B5.out.size)
 have G6:Hid (PtB w6 w3.heap.size c kd d q u (m:Int) e r):=G5.out.step b6
 have BT:Hid (Bl w6 (w6.alloc (.cells #[vI 0,vI p,vI 0,vI 0,vI 0] 46))):=bz _ _
 have G7:Hid (PtB (w6.alloc (.cells #[vI 0,vI p,vI 0,vI 0,vI 0] 46)) w3.heap.size c kd d q u (m:Int) e r):=G6.out.step BT.out
 have B7:Hid (Bl w (w6.alloc (.cells #[vI 0,vI p,vI 0,vI 0,vI 0] 46))):=B6.out.trans (BT.out.mono B6.out.size)
 clear b6 a0 a1 a2 a3 a4 a5 a6 a7 TA G6 G5
 obtain ⟨_,a0,a1,a2,a3,a4,a5,a6,a7⟩:=G7.out
 have TC:∀ (o:Nat) (v:Value),(#[vI 0,vI p,vI 0,vI 0,vI 0]:Array Value)[o]?=some v → (w6.alloc (.cells #[vI 0,vI p,vI 0,vI 0,vI 0] 46)).cell? ⟨w6.heap.size,o,none⟩=some v:=fun o v h=>by simpa using h
 have c4:=TC 4 _ rfl
 clear TC
 go_wp2_with fail
 refine (LI _).mono ?_
 rintro o w8 ⟨rfl,b8⟩
 have B8:Hid (Bl w w8):=B7.out.trans (b8.mono B7.out.size)
 have d4:=(b8.cell (p:=⟨w6.heap.size,4,none⟩) (by simp)).trans c4
 clear b8 c4 a0 a1 a2 a3 a4 a5 a6 a7 LI
 cases lb
 · go_wp2_with fail
   refine (WK _ (HT.out.1.next B8.out) (HT.out.2.below B8.out HT.out.2.pos)).mono ?_
   rintro o w9 ⟨rfl,b9⟩
   have B9:Hid (Bl w w9):=B8.out.trans (b9.mono B8.out.size)
   clear b9
   go_wp2
   go_ret
   exact ⟨rfl,B9.out⟩
 · go_wp2_with fail
   refine (WK _ (HT.out.1.next B8.out) (HT.out.2.below B8.out HT.out.2.pos)).mono ?_
   rintro o w9 ⟨rfl,b9⟩
   have B9:Hid (Bl w w9):=B8.out.trans (b9.mono B8.out.size)
   clear b9
   go_wp2
   go_ret
   exact ⟨rfl,B9.out⟩
end Go.Proofs.YtiminkommimgdaaGreatDoor
