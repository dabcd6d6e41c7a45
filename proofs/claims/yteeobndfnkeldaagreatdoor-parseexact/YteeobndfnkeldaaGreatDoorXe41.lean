/-
  Holds: UUiF UUiH UItW PsD PsE PsK PsU PsV LawPExact.
-/
import Derived.Test.YteeobndfnkeldaaGreatDoorShelf
import Derived.Lib.ItoaNum
import Derived.WalkSpells
import Derived.WalkLawsBesides
import Derived.Lib.Mul64
import Derived.Lib.TrailingZeros
import Derived.Deep.OwnRows
import Derived.Laws.CopyOwn
import Derived.BigQuiet
import Derived.Deep.RegionHeld3
import Derived.Deep.LoopGhost
import Derived.Deep.AppendLies
import Derived.Deep.DeepCutAuto
import Derived.Stop.Asserts
import Derived.RowKitTokens
import Derived.Lib.BufferWrite
import Derived.Lib.ConvBytes
import Derived.Test.YteeobndfnkeldaaGreatDoorRows
import Derived.Laws.EntriesVeiled
import Derived.Test.YteeobndfnkeldaaGreatDoorXe37
import Derived.Test.YteeobndfnkeldaaGreatDoorXe39
import Derived.Test.YteeobndfnkeldaaGreatDoorXe40
set_option maxRecDepth 100000
set_option maxHeartbeats 4000000
namespace Go.Proofs.YteeobndfnkeldaaGreatDoor
open Go.RowKit
def Wr (w:World) (c t:ByteArray) (n:Int) (v:Value):Prop:=Ch w [(c,t)] n v
theorem Wr.below {w w':World}{B:Nat}{c t:ByteArray}{n:Int}{v:Value}(h:Wr w c t n v) (hb:Below B w w') (hB:w.heap.size≤B):Wr w' c t n v:=Ch.below hb hB h
theorem wrap_err {c t:ByteArray}(hc:c.size≤140737488355328) (ht:t.size≤140737488355328) (n:Int) (w:World) :
 Calls Tryz.prog 26 #[.string c,.string t,.iface 71 (vI n)] w fun x w'=>∃ v',x=.returned v'∧Wr w' c t n v'∧Bl w w' :=
 wrap_ch hc ht (ls:=[]) rfl
def ErV (w:World) (n:Int) (c t:ByteArray) (v:Value):Prop:=(n=0∧v=.nilIface) ∨ (n ≠ 0∧Wr w c t n v)
theorem ErV.below {w w':World}{B:Nat}{c t:ByteArray}{n:Int}{v:Value}(h:ErV w n c t v) (hb:Below B w w') (hB:w.heap.size≤B):ErV w' n c t v:=by
 rcases h with h | h
 · exact Or.inl h
 · exact Or.inr ⟨h.1,h.2.below hb hB⟩
end Go.Proofs.YteeobndfnkeldaaGreatDoor
namespace Go.Proofs.YteeobndfnkeldaaGreatDoor
open Go.RowKit Go.Extern.Stop Go.Stop Go.Extern
theorem num_nil (w:World):Cb 16 #[.nilIface] w (vI 0):=by
 go_enter Tryz.func16,Tryz.ntmps16
 go_wp2
 go_ret
 exact ⟨rfl,by first | exact bz _ _ | exact Below.refl _ _⟩
theorem num_ch {ls:List Lk}{n:Int}{v:Value}{w:World}(h:Ch w ls n v) (hg:ErrT w):Cb 16 #[v] w (vI n):=by
 have B0:Bl w (w.alloc (.cells #[vI 0] 71)):=bz _ _
 have A1:=AsN_ch (w:=w.alloc (.cells #[vI 0] 71)) h B0 (t:=⟨w.heap.size,0,none⟩) (old:=vI 0) (hg.below B0 hg.pos) (by simp) (World.frozen?_alloc_new _ _ _ _)
 obtain ⟨T,y,rfl⟩:=h.iface
 have HB:Hid (Bl w (w.alloc (.cells #[vI 0] 71))):=B0
 clear hg h B0
 go_enter Tryz.func16,Tryz.ntmps16
 go_wp2_with fail
 refine A1.mono ?_
 rintro e w1 ⟨rfl,hc,hb⟩
 have HD:Hid (Bl w w1):=HB.out.trans hb
 clear hb
 go_wp2
 go_ret
 exact ⟨rfl,HD.out⟩
theorem told18_nil (c t:ByteArray) (w:World):Cb 9 #[.nilIface,.string c,.string t,vI 0] w (.bool true):=by
 go_enter Tryz.func9,Tryz.ntmps9
 go_wp2
 go_ret
 exact ⟨rfl,Below.refl _ _⟩
theorem told18_wr {c t:ByteArray}{n:Int}(hn:n ≠ 0) {v:Value}{w:World}(h:Wr w c t n v) (hg:ErrT w) :
 Cb 9 #[v,.string c,.string t,vI n] w (.bool true):=by
 have h':Ch w [(c,t)] n v:=h
 have B0:Bl w (w.alloc (.cells #[.pointer none] 65)):=bz _ _
 have A1:=AsF_ch (w:=w.alloc (.cells #[.pointer none] 65)) h' B0 (t:=⟨w.heap.size,0,none⟩) (old:=.pointer none) (hg.below B0 hg.pos) (by simp) (World.frozen?_alloc_new _ _ _ _)
 have N1:=fun W (h:Ch W [(c,t)] n v) (hg:ErrT W)=>num_ch h hg
 have I1:=fun W (h:Ch W [(c,t)] n v)=>Is_ch n h
 rw [show (n == n)=true from beq_self_eq_true n] at I1
 have HB:Hid (Bl w (w.alloc (.cells #[.pointer none] 65))):=B0
 have H0:Hid (Ch w [(c,t)] n v∧ErrT w):=⟨h',hg⟩
 have hn':(n == 0)=false:=beq_eq_false_iff_ne.mpr hn
 obtain ⟨T,y,rfl⟩:=h'.iface
 clear h h' hg hn B0
 go_enter Tryz.func9,Tryz.ntmps9
 go_wp2_with fail
 refine A1.mono ?_
 rintro e w1 hr
 rcases hr with ⟨a1,_,_⟩ | ⟨c',x',b,z,a1,rfl,a3,a4,a5⟩
 · cases a1
 · have a1':some (c,t)=some (c',x'):=a1
   cases a1'
   have B1:Hid (Bl w w1):=HB.out.trans a5
   have a6:w1.heap[b]?=some (.cells #[.string c,.string t,z] 69 (0,0)):=(B1.out.block b (lt_of_heap a4)).trans a4
   have k0:w1.cell? ⟨b,0,none⟩=some (.string c):=by simp [World.cell?,a6]
   have k1:w1.cell? ⟨b,1,none⟩=some (.string t):=by simp [World.cell?,a6]
   have H1:Hid (Ch w1 [(c,t)] n (.iface T y)∧ErrT w1):=⟨H0.out.1.below B1.out (Nat.le_refl _),H0.out.2.below B1.out H0.out.2.pos⟩
   clear a1 a4 a5 a6
   go_wp2_with fail
   refine (N1 _ H1.out.1 H1.out.2).mono ?_
   rintro e w2 ⟨rfl,b2⟩
   have B2:Hid (Bl w w2):=B1.out.trans (b2.mono B1.out.size)
   have H2:Hid (Ch w2 [(c,t)] n (.iface T y)):=H1.out.1.below b2 (Nat.le_refl _)
   clear b2
   go_wp2_with fail
   refine (I1 _ H2.out).mono ?_
   rintro e w2 ⟨rfl,rfl⟩
   go_wp2
   go_ret
   exact ⟨rfl,B2.out⟩
theorem told18_any {c t:ByteArray}{n:Int}{v:Value}{w:World}(h:ErV w n c t v) (hg:ErrT w) :
 Cb 9 #[v,.string c,.string t,vI n] w (.bool true):=by
 rcases h with ⟨rfl,rfl⟩ | ⟨h1,h2⟩
 · exact told18_nil c t w
 · exact told18_wr h1 h2 hg
end Go.Proofs.YteeobndfnkeldaaGreatDoor
namespace Go.Proofs.YteeobndfnkeldaaGreatDoor
open Go.RowKit
def cPrs:ByteArray:=⟨#[80,97,114,115,101]⟩
def cPfx:ByteArray:=⟨#[80,114,101,102,105,120]⟩
theorem wrap_of {c t : ByteArray} (hc : c.size ≤ 140737488355328) (ht : t.size ≤ 140737488355328) (b : Bool) (W : World) : Calls Tryz.prog 26 #[.string c, .string t, if b then .iface 71 (.int .i64 4) else .nilIface] W fun o w' => ∃ v, o = .returned v ∧ ErV w' (if b then 4 else 0) c t v ∧ Below W.heap.size W w' := by
  cases b with
  | false =>
    refine (wrap_nil c t W).mono ?_
    rintro o w' ⟨rfl, rfl⟩
    exact ⟨_, rfl, .inl ⟨rfl, rfl⟩, Below.refl _ _⟩
  | true =>
    refine (wrap_err hc ht 4 W).mono ?_
    rintro o w' ⟨v, rfl, h, b⟩
    exact ⟨v, rfl, .inr ⟨by decide, h⟩, b⟩
theorem prs_no {z:Int}{s:ByteArray}(hs:s.size≤140737488355328) {po:Option Addr}{w:World}(CK:∀ W,Cb 25 #[vU 0,vI z] W .nilIface)
 (SC:∀ W,Cb 33 #[.string s] W (.tuple #[.agg #[.bool false,vI 0,.string ⟨#[]⟩,vI 0,.bool false,vU 0,vI 0,.bool false],.iface 71 (vI 3)])) :
 Calls Tryz.prog 13 #[.string s,vI z,.pointer po] w fun o w'=>∃ v,o=.returned (.tuple #[vU 0,v])∧ErV w' 3 cPrs s v∧Bl w w':=by
 have WR:=fun W=>wrap_err (c:=cPrs) (t:=s) (by decide) hs 3 W
 unfold cPrs at *
 clear hs
 go_enter Tryz.func13,Tryz.ntmps13
 go_wp2_with fail
 refine (CK _).mono ?_
 rintro o w1 ⟨rfl,b1⟩
 have B1:Hid (Bl w w1):=b1
 clear b1
 go_wp2_with fail
 refine (SC _).mono ?_
 rintro o w2 ⟨rfl,b2⟩
 have B2:Hid (Bl w (w2.alloc (.cells #[.bool false,vI 0,.string ⟨#[]⟩,vI 0,.bool false,vU 0,vI 0,.bool false] 43))):=(B1.out.trans (b2.mono B1.out.size)).alloc (Nat.le_trans B1.out.size b2.size) _
 clear b2
 go_wp2_with fail
 refine (WR _).mono ?_
 rintro o w3 ⟨v,rfl,h3,b3⟩
 have B3:Hid (Bl w w3):=B2.out.trans (b3.mono B2.out.size)
 have H3:Hid (Wr w3 ⟨#[80,97,114,115,101]⟩ s 3 v):=h3
 clear b3 h3
 go_wp2
 go_ret2
 exact ⟨v,rfl,.inr ⟨by decide,H3.out⟩,B3.out⟩
theorem prs_yes {z:Int}{s:ByteArray}{po:Option Addr}{w:World}{X E:Value}{k:Int}{R:World → World → Prop}{c:Bool}{kd:Int}{d:ByteArray}{q:Int}{u:Bool}{m:Nat}{e:Int}{r:Bool}(CK:∀ W,Cb 25 #[vU 0,vI z] W .nilIface)
 (SC:∀ W,Cb 33 #[.string s] W (.tuple #[ptV c kd d q u (m:Int) e r,.nilIface]))
 (VL:∀ W,Bl w W → Calls Tryz.prog 34 #[ptV c kd d q u (m:Int) e r,vI z,.pointer po] W fun o w'=>o=.returned (.tuple #[X,E])∧R W w')
 (WR:∀ W,Calls Tryz.prog 26 #[.string cPrs,.string s,E] W fun o w'=>∃ v,o=.returned v∧ErV w' k cPrs s v∧Bl W w') :
 Calls Tryz.prog 13 #[.string s,vI z,.pointer po] w fun o w'=>∃ v w1 w2,o=.returned (.tuple #[X,v])∧ErV w' k cPrs s v∧Bl w w1∧R w1 w2∧Bl w2 w':=by
 unfold cPrs ptV at *
 go_enter Tryz.func13,Tryz.ntmps13
 go_wp2_with fail
 refine (CK _).mono ?_
 rintro o w1 ⟨rfl,b1⟩
 have B1:Hid (Bl w w1):=b1
 clear b1
 go_wp2_with fail
 refine (SC _).mono ?_
 rintro o w2 ⟨rfl,b2⟩
 have B2:Hid (Bl w (w2.alloc (.cells #[.bool c,vI kd,.string d,vI q,.bool u,vU (m:Int),vI e,.bool r] 43))):=(B1.out.trans (b2.mono B1.out.size)).alloc (Nat.le_trans B1.out.size b2.size) _
 clear b2
 have VL':=VL _ B2.out
 go_wp2_with fail
 refine VL'.mono ?_
 rintro o w3 ⟨rfl,r3⟩
 have R3:Hid (R _ w3):=r3
 clear r3 VL VL'
 go_wp2_with fail
 refine (WR _).mono ?_
 rintro o w4 ⟨v,rfl,h4,b4⟩
 have H4:Hid (ErV w4 k ⟨#[80,97,114,115,101]⟩ s v∧Bl w3 w4):=⟨h4,b4⟩
 clear b4 h4
 go_wp2
 go_ret2
 exact ⟨v,_,w3,rfl,H4.out.1,B2.out,R3.out,H4.out.2⟩
theorem pre_no {z:Int}{s:ByteArray}(hs:s.size≤140737488355328) {po:Option Addr}{w:World}(CK:∀ W,Cb 25 #[vU 0,vI z] W .nilIface)
 (SC:∀ W,Cb 58 #[.string s] W (.tuple #[.agg #[.bool false,vI 0,.string ⟨#[]⟩,vI 0,.bool false,vU 0,vI 0,.bool false],vI 0,.iface 71 (vI 3)])) :
 Calls Tryz.prog 32 #[.string s,vI z,.pointer po] w fun o w'=>∃ v,o=.returned (.tuple #[vU 0,vI 0,v])∧ErV w' 3 cPfx s v∧Bl w w':=by
 have WR:=fun W=>wrap_err (c:=cPfx) (t:=s) (by decide) hs 3 W
 unfold cPfx at *
 clear hs
 go_enter Tryz.func32,Tryz.ntmps32
 go_wp2_with fail
 refine (CK _).mono ?_
 rintro o w1 ⟨rfl,b1⟩
 have B1:Hid (Bl w w1):=b1
 clear b1
 go_wp2_with fail
 refine (SC _).mono ?_
 rintro o w2 ⟨rfl,b2⟩
 have B2:Hid (Bl w (w2.alloc (.cells #[.bool false,vI 0,.string ⟨#[]⟩,vI 0,.bool false,vU 0,vI 0,.bool false] 43))):=(B1.out.trans (b2.mono B1.out.size)).alloc (Nat.le_trans B1.out.size b2.size) _
 clear b2
 go_wp2_with fail
 refine (WR _).mono ?_
 rintro o w3 ⟨v,rfl,h3,b3⟩
 have B3:Hid (Bl w w3):=B2.out.trans (b3.mono B2.out.size)
 have H3:Hid (Wr w3 ⟨#[80,114,101,102,105,120]⟩ s 3 v):=h3
 clear b3 h3
 go_wp2
 go_ret3
 exact ⟨v,rfl,.inr ⟨by decide,H3.out⟩,B3.out⟩
theorem pre_yes {z:Int}{s:ByteArray}{po:Option Addr}{w:World}{X E:Value}{N:Value}{k:Int}{R:World → World → Prop}{c:Bool}{kd:Int}{d:ByteArray}{q:Int}{u:Bool}{m:Nat}{e:Int}{r:Bool}(CK:∀ W,Cb 25 #[vU 0,vI z] W .nilIface)
 (SC:∀ W,Cb 58 #[.string s] W (.tuple #[ptV c kd d q u (m:Int) e r,N,.nilIface]))
 (VL:∀ W,Bl w W → Calls Tryz.prog 34 #[ptV c kd d q u (m:Int) e r,vI z,.pointer po] W fun o w'=>o=.returned (.tuple #[X,E])∧R W w')
 (WR:∀ W,Calls Tryz.prog 26 #[.string cPfx,.string s,E] W fun o w'=>∃ v,o=.returned v∧ErV w' k cPfx s v∧Bl W w') :
 Calls Tryz.prog 32 #[.string s,vI z,.pointer po] w fun o w'=>∃ v w1 w2,o=.returned (.tuple #[X,N,v])∧ErV w' k cPfx s v∧Bl w w1∧R w1 w2∧Bl w2 w':=by
 unfold cPfx ptV at *
 go_enter Tryz.func32,Tryz.ntmps32
 go_wp2_with fail
 refine (CK _).mono ?_
 rintro o w1 ⟨rfl,b1⟩
 have B1:Hid (Bl w w1):=b1
 clear b1
 go_wp2_with fail
 refine (SC _).mono ?_
 rintro o w2 ⟨rfl,b2⟩
 have B2:Hid (Bl w (w2.alloc (.cells #[.bool c,vI kd,.string d,vI q,.bool u,vU (m:Int),vI e,.bool r] 43))):=(B1.out.trans (b2.mono B1.out.size)).alloc (Nat.le_trans B1.out.size b2.size) _
 clear b2
 have VL':=VL _ B2.out
 go_wp2_with fail
 refine VL'.mono ?_
 rintro o w3 ⟨rfl,r3⟩
 have R3:Hid (R _ w3):=r3
 clear r3 VL VL'
 go_wp2_with fail
 refine (WR _).mono ?_
 rintro o w4 ⟨v,rfl,h4,b4⟩
 have H4:Hid (ErV w4 k ⟨#[80,114,101,102,105,120]⟩ s v∧Bl w3 w4):=⟨h4,b4⟩
 clear b4 h4
 go_wp2
 go_ret3
 exact ⟨v,_,w3,rfl,H4.out.1,B2.out,R3.out,H4.out.2⟩
def prA (g f T:Nat) (L:Int) (l:List UInt8):Nat × Int :=
 match scn l with
 | none=>(0,3)
 | some P=>((ofP g f T L P).1,if (ofP g f T L P).2 then 4 else 0)
def pxA (g f T:Nat) (L:Int) (l:List UInt8):Nat × Nat × Int :=
 match pfx l with
 | none=>(0,0,3)
 | some (P,n)=>((ofP g f T L P).1,n,if (ofP g f T L P).2 then 4 else 0)
def Prd (mb:Option Nat) (W:World) (M K:Nat) (o:Option Pt):Prop :=
 match o with
 | none=>Mq mb 0 0 W 0 0
 | some P=>Vrd mb W P (Lgt M K P)
theorem parse_ok {z : Int} {g n f T : Nat} {L : Int} (hz : Fz z g n f T L) {M K : Nat} (hx : Xz z f T L M K) {mb : Option Nat} {w0 W : World} (mq : Mq mb 0 0 W 0 0) (F : Frm mb w0 W) (hT : Tab w0) {l : List UInt8} (hl : l.length ≤ 1048600) :
    Calls Tryz.prog 13 #[.string (sB l), .int .i64 z, mqV mb] W fun o W' => ∃ v, o = .returned (.tuple #[.int .u64 (((prA g f T L l).1 : Nat) : Int), v]) ∧ ErV W' (prA g f T L l).2 cPrs (sB l) v ∧ Bt mb W W' ∧ Prd mb W' M K (scn l) := by
  obtain ⟨po, hpo⟩ : ∃ po, mqV mb = .pointer po := by cases mb <;> exact ⟨_, rfl⟩
  have CK := fun W => check_z hz W
  have hs : (sB l).size ≤ 140737488355328 := by rw [bl_size]; omega
  have SC := fun W => scan_any l hl W
  unfold prA
  cases h : scn l with
  | none =>
    rw [h] at SC
    rw [hpo]
    refine (prs_no hs CK SC).mono ?_
    rintro o w' ⟨v, rfl, e, b⟩
    exact ⟨v, rfl, e, Bt.of b, mq.step b⟩
  | some P =>
    rw [h] at SC
    have VL := fun W' (b : Below W.heap.size W W') => value_ok hz hx (mq.step b) (F.below b) hT (scn_ok h)
    rw [hpo] at VL ⊢
    refine (prs_yes (R := fun W W' => Bt mb W W' ∧ Vrd mb W' P (Lgt M K P)) CK SC VL (fun W => wrap_of (by decide) hs _ W)).mono ?_
    rintro o w' ⟨v, w1, w2, rfl, e, b1, ⟨b2, r⟩, b3⟩
    exact ⟨v, rfl, e, ((Bt.of b1).trans b2).trans (Bt.of b3), r.step b3⟩
theorem prefix_ok {z : Int} {g n f T : Nat} {L : Int} (hz : Fz z g n f T L) {M K : Nat} (hx : Xz z f T L M K) {W : World} (hT : Tab W) {l : List UInt8} (hl : l.length ≤ 1048600) :
    Calls Tryz.prog 32 #[.string (sB l), .int .i64 z, .pointer none] W fun o W' => ∃ v, o = .returned (.tuple #[.int .u64 (((pxA g f T L l).1 : Nat) : Int), .int .i64 (((pxA g f T L l).2.1 : Nat) : Int), v]) ∧ ErV W' (pxA g f T L l).2.2 cPfx (sB l) v ∧ Below W.heap.size W W' := by
  have CK := fun W => check_z hz W
  have hs : (sB l).size ≤ 140737488355328 := by rw [bl_size]; omega
  have SC := fun W => prefix_any2 l hl W
  unfold pxA
  cases h : pfx l with
  | none =>
    rw [h] at SC
    exact pre_no hs CK SC
  | some x =>
    obtain ⟨P, k⟩ := x
    rw [h] at SC
    have VL := fun W' (b : Below W.heap.size W W') => value_ok hz hx (mb := none) (w0 := W) (W := W') rfl ⟨b, fun _ h => by cases h⟩ hT (pfx_ok h)
    refine (pre_yes (R := fun W W' => Bt none W W' ∧ Vrd none W' P (Lgt M K P)) CK SC VL (fun W => wrap_of (by decide) hs _ W)).mono ?_
    rintro o w' ⟨v, w1, w2, rfl, e, b1, ⟨b2, _⟩, b3⟩
    exact ⟨v, rfl, e, (b1.trans (b2.none.mono b1.size)).trans (b3.mono (Nat.le_trans b1.size b2.none.size))⟩
theorem parse_nil {z:Int}{g n f T:Nat}{L:Int}(hz:Fz z g n f T L) {W:World}(hT:Tab W) {l:List UInt8}(hl:l.length≤1048600) :
 Calls Tryz.prog 13 #[.string (sB l),vI z,.pointer none] W fun o W'=>∃ v,o=.returned (.tuple #[vU (((prA g f T L l).1:Nat):Int),v])∧ErV W' (prA g f T L l).2 cPrs (sB l) v∧Bl W W':=by
 obtain ⟨M,K,hx⟩:∃ M K,Xz z f T L M K:=by
  rcases hz with ⟨rfl,_,_,rfl,rfl,rfl⟩ | ⟨rfl,_,_,rfl,rfl,rfl⟩
  · exact ⟨_,_,.inl ⟨rfl,rfl,rfl,rfl,rfl,rfl⟩⟩
  · exact ⟨_,_,.inr ⟨rfl,rfl,rfl,rfl,rfl,rfl⟩⟩
 refine (parse_ok hz hx (mb:=none) (w0:=W) rfl ⟨Below.refl _ _,fun _ h=>by cases h⟩ hT hl).mono ?_
 rintro o w' ⟨v,rfl,e,b,_⟩
 exact ⟨v,rfl,e,b.none⟩
end Go.Proofs.YteeobndfnkeldaaGreatDoor
namespace Go.Proofs.YteeobndfnkeldaaGreatDoor
open Go.RowKit Go.Extern.Stop Go.Stop Go.Extern
theorem f64:Fz 64 9223372036854775808 9218868437227405312 52 2047 (-1074):=.inr ⟨rfl,rfl,rfl,rfl,rfl,rfl⟩
theorem w18a:prA 9223372036854775808 52 2047 (-1074) [48,46,49]=(4591870180066957722,0):=by decide +kernel
theorem w18b:prA 9223372036854775808 52 2047 (-1074) [49,101,52,48,48]=(9218868437227405312,4):=by decide +kernel
theorem w18c:prA 9223372036854775808 52 2047 (-1074) [48,120,49,112,45,49,48,55,52]=(1,0):=by decide +kernel
theorem w18d:pxA 9223372036854775808 52 2047 (-1074) [50,46,53,107,103]=(4612811918334230528,3,0):=by decide +kernel
theorem ErV.nil {w:World}{c t:ByteArray}{v:Value}(h:ErV w 0 c t v):v=.nilIface:=by
 rcases h with h | h
 · exact h.2
 · exact absurd rfl h.1
theorem works18 (w:World) (hT:Tab w) (hg:ErrT w):Cb 12 #[] w (.bool true):=by
 have P1:=fun W (h:Tab W)=>parse_nil f64 h (l:=[48,46,49]) (by decide)
 have P2:=fun W (h:Tab W)=>parse_nil f64 h (l:=[49,101,52,48,48]) (by decide)
 have P3:=fun W (h:Tab W)=>parse_nil f64 h (l:=[48,120,49,112,45,49,48,55,52]) (by decide)
 have P4:=fun W (h:Tab W)=>prefix_ok f64 (.inr ⟨rfl,rfl,rfl,rfl,rfl,rfl⟩) h (l:=[50,46,53,107,103]) (by decide)
 rw [w18a] at P1
 rw [w18b] at P2
 rw [w18c] at P3
 rw [w18d] at P4
 have HT:Hid (Tab w∧ErrT w):=⟨hT,hg⟩
 clear hT hg
 go_enter Tryz.func12,Tryz.ntmps12
 go_wp2_with fail
 refine (P1 _ HT.out.1).mono ?_
 rintro o w1 ⟨v1,rfl,e1,b1⟩
 obtain rfl:=e1.nil
 have B1:Hid (Bl w w1):=b1
 clear b1 e1 P1
 go_wp2_with fail
 refine (P2 _ (HT.out.1.next B1.out)).mono ?_
 rintro o w2 ⟨v2,rfl,e2,b2⟩
 have B2:Hid (Bl w w2):=B1.out.trans (b2.mono B1.out.size)
 have E2:Hid (ErV w2 4 cPrs (sB [49,101,52,48,48]) v2):=e2
 clear b2 e2 P2
 go_wp2_with fail
 refine (P3 _ (HT.out.1.next B2.out)).mono ?_
 rintro o w3 ⟨v3,rfl,e3,b3⟩
 obtain rfl:=e3.nil
 have B3:Hid (Bl w w3):=B2.out.trans (b3.mono B2.out.size)
 have E3:Hid (ErV w3 4 cPrs (sB [49,101,52,48,48]) v2):=E2.out.below b3 (Nat.le_refl _)
 clear b3 e3 P3
 go_wp2_with fail
 refine (P4 _ (HT.out.1.next B3.out)).mono ?_
 rintro o w4 ⟨v4,rfl,e4,b4⟩
 obtain rfl:=e4.nil
 have B4:Hid (Bl w w4):=B3.out.trans (b4.mono B3.out.size)
 have E4:Hid (ErV w4 4 cPrs (sB [49,101,52,48,48]) v2):=E3.out.below b4 (Nat.le_refl _)
 clear b4 e4 P4
 have TL:=told18_any E4.out (HT.out.2.below B4.out HT.out.2.pos)
 unfold cPrs at TL
 go_wp2_with fail
 refine TL.mono ?_
 rintro o w5 ⟨rfl,b5⟩
 have B5:Hid (Bl w w5):=B4.out.trans (b5.mono B4.out.size)
 clear b5 TL
 go_wp2
 go_ret
 exact ⟨rfl,B5.out⟩
end Go.Proofs.YteeobndfnkeldaaGreatDoor
namespace Go.Proofs.YteeobndfnkeldaaGreatDoor
open Go.RowKit
def Dgs (b m:Nat) (a:List UInt8) (n:Nat):Prop:=(a=[]∧n=m) ∨ (a ≠ []∧((n=0∧a=fl b m) ∨ (0<n∧fl b m=fl b n ++ a)))
theorem Dgs.step {b m n:Nat}(hb:2≤b) {a:List UInt8}(h:Dgs b m a n) (c:a=[] ∨ 0<n):Dgs b m (dg8 (n % b) :: a) (n / b):=by
 have key:fl b n=if n<b then [dg8 (n % b)] else fl b (n / b) ++ [dg8 (n % b)]:=by
  split
  · rename_i q
    rw [Nat.mod_eq_of_lt q]
    exact fl_small q
  · rename_i q
    exact fl_big hb (by omega)
 have full:fl b m=fl b n ++ a:=by
  rcases h with ⟨rfl,rfl⟩ | ⟨h1,⟨h2,h3⟩ | ⟨h2,h3⟩⟩
  · rw [List.append_nil]
  · rcases c with c | c
    · exact absurd c h1
    · omega
  · exact h3
 refine .inr ⟨by simp,?_⟩
 by_cases q:n<b
 · rw [if_pos q] at key
   refine .inl ⟨Nat.div_eq_of_lt q,?_⟩
   rw [full,key]
   rfl
 · rw [if_neg q] at key
   refine .inr ⟨Nat.div_pos (by omega) (by omega),?_⟩
   rw [full,key,List.append_assoc]
   rfl
theorem Dgs.done {b m:Nat}{a:List UInt8}(h:Dgs b m a 0) (c:a ≠ []):a=fl b m:=by
 rcases h with ⟨h,_⟩ | ⟨_,⟨_,h⟩ | ⟨h,_⟩⟩
 · exact absurd h c
 · exact h
 · omega
theorem Dgs.len {b m n:Nat}{a:List UInt8}(h:Dgs b m a n):a.length≤(fl b m).length:=by
 rcases h with ⟨rfl,_⟩ | ⟨_,⟨_,rfl⟩ | ⟨_,h⟩⟩
 · exact Nat.zero_le _
 · exact Nat.le_refl _
 · rw [h,List.length_append]
   omega
theorem fl10_le {e:Nat}(h:e≤5000):(fl 10 e).length≤64:=by
 have d:=fl_dlen (b:=10) (by decide) e
 apply Classical.byContradiction
 intro n
 have q:=d.2.2.1 (fun z=>by have:=d.2.1 z;omega)
 have p:10 ^ 10≤10 ^ ((fl 10 e).length - 1):=Nat.pow_le_pow_right (by decide) (by omega)
 have e10:(10:Nat) ^ 10=10000000000:=by decide
 omega
def emp:Value → Nat
 | .string s=>if s.size=0 then 1 else 0
 | _=>0
def c10:ByteArray:=⟨#[48,49,50,51,52,53,54,55,56,57]⟩
theorem at10 {k:Nat}(h:k<10):c10.extract k (k+1)=sB [dg8 k]:=by
 have:∀ i:Fin 10,c10.extract i.val (i.val+1)=sB [dg8 i.val]:=by decide +kernel
 exact this ⟨k,h⟩
theorem num_erv {k:Int}{c s:ByteArray}{v:Value}{w:World}(h:ErV w k c s v) (hg:ErrT w):Cb 16 #[v] w (vI k):=by
 rcases h with ⟨rfl,rfl⟩ | ⟨_,h⟩
 · exact num_nil w
 · exact num_ch h hg
theorem emp_yes {a:List UInt8}(h:a=[]):(sB a).toList.isEmpty=true:=by
 rw [list_data,bl_list,h]
 rfl
theorem emp_no {a:List UInt8}(h:a ≠ []):(sB a).toList.isEmpty=false:=by
 rw [list_data,bl_list]
 cases a with
 | nil=>exact absurd rfl h
 | cons c r=>rfl
theorem fz_ofH (z:Int):Sn z ∨ ∃ g n f T L,Fz z g n f T L:=by
 by_cases h:z=32
 · exact .inr ⟨_,_,_,_,_,.inl ⟨h,rfl,rfl,rfl,rfl,rfl⟩⟩
 · by_cases h':z=64
   · exact .inr ⟨_,_,_,_,_,.inr ⟨h',rfl,rfl,rfl,rfl,rfl⟩⟩
   · exact .inl ⟨h,h'⟩
theorem text_ok {u M:List UInt8}(hu:u.length≤800) (hM:M.length≤64) {P:Int}(p0:-5000≤P) (p1:P≤5000) (w:World) :
 Cb 24 #[dcV (sB u) P false,.string (sB M)] w (.string (sB (txD (u ++ M) (decide (P<0)) P.natAbs))):=by
 have HH:Hid (-5000≤P∧P≤5000):=⟨p0,p1⟩
 have HE:Hid (P.natAbs≤5000):=by show _≤_;omega
 have HD:Hid ((fl 10 P.natAbs).length≤64):=fl10_le HE.out
 have B0:Hid (Bl w (w.alloc (.cells #[.string (sB u),vI P,.bool false] 41))):=bz _ _
 have z1:(⟨#[48,46]⟩:ByteArray) ++ sB u=sB ([48,46] ++ u):=bl_append [48,46] u
 have z2:=bl_append ([48,46] ++ u) M
 have z3:sB ([48,46] ++ u ++ M) ++ (⟨#[101]⟩:ByteArray)=sB ([48,46] ++ u ++ M ++ [101]):=bl_append ([48,46] ++ u ++ M) [101]
 have l0:(sB u).size≤800:=by rw [bl_size];exact hu
 have lM:(sB M).size≤64:=by rw [bl_size];exact hM
 have l1:(sB ([48,46] ++ u)).size≤802:=by rw [bl_size,List.length_append];simp;omega
 have l2:(sB ([48,46] ++ u ++ M)).size≤866:=by rw [bl_size,List.length_append,List.length_append];simp;omega
 have l3:(sB ([48,46] ++ u ++ M ++ [101])).size≤867:=by rw [bl_size,List.length_append,List.length_append,List.length_append];simp;omega
 have h1:¬ 9223372036854775807<(⟨#[48,46]⟩:ByteArray).size+(sB u).size:=by
  have:(⟨#[48,46]⟩:ByteArray).size=2:=rfl
  omega
 have h2:¬ 9223372036854775807<(sB ([48,46] ++ u)).size+(sB M).size:=by omega
 have h3:¬ 9223372036854775807<(sB ([48,46] ++ u ++ M)).size+(⟨#[101]⟩:ByteArray).size:=by
  have:(⟨#[101]⟩:ByteArray).size=1:=rfl
  omega
 unfold dcV
 clear p0 p1 hu hM
 go_enter Tryz.func24,Tryz.ntmps24
 by_cases en:P<0
 · have wn:wrap64 (-P) = -P:=by have:=HH.out;unfold wrap64;omega
   have hs:txD (u ++ M) (decide (P<0)) P.natAbs=[48,46] ++ u ++ M ++ [101] ++ [45] ++ fl 10 P.natAbs:=by rw [show decide (P<0)=true from decide_eq_true en];unfold txD;simp
   rw [hs]
   clear hs
   have z4:sB ([48,46] ++ u ++ M ++ [101]) ++ (⟨#[45]⟩:ByteArray)=sB ([48,46] ++ u ++ M ++ [101] ++ [45]):=bl_append ([48,46] ++ u ++ M ++ [101]) [45]
   have h4:¬ 9223372036854775807<(sB ([48,46] ++ u ++ M ++ [101])).size+(⟨#[45]⟩:ByteArray).size:=by
    have:(⟨#[45]⟩:ByteArray).size=1:=rfl
    omega
   have l5:(sB ([48,46] ++ u ++ M ++ [101] ++ [45])).size≤1000:=by rw [bl_size,List.length_append];rw [bl_size] at l3;simp only [List.length_singleton];omega
   have z5:=bl_append ([48,46] ++ u ++ M ++ [101] ++ [45]) (fl 10 P.natAbs)
   generalize hq5:sB ([48,46] ++ u ++ M ++ [101] ++ [45] ++ fl 10 P.natAbs)=t5 at *
   clear hq5
   generalize hq3:sB ([48,46] ++ u ++ M ++ [101] ++ [45])=t4 at *
   clear hq3
   generalize hq2:sB ([48,46] ++ u ++ M ++ [101])=t3 at *
   clear hq2
   generalize hq1:sB ([48,46] ++ u ++ M)=t2 at *
   clear hq1
   generalize hq0:sB ([48,46] ++ u)=t1 at *
   clear hq0
   go_wp2
   go_loop [7,6] (fun sv nv=>∃ (b:List UInt8) (n:Nat),sv=.string (sB b)∧nv=vI (n:Int)∧n≤5000∧Hid (Dgs 10 P.natAbs b n)) (fun sv nv=>(intOf nv).toNat+emp sv)
   case atStart=>exact ⟨[],P.natAbs,rfl,by rw [show (P.natAbs:Int) = -P from by omega,wn],HE.out,.inl ⟨rfl,rfl⟩⟩
   case round =>
    obtain ⟨b,n,rfl,rfl,hn,HI⟩:=hrel
    have bl:(sB b).size≤64:=by
     rw [bl_size]
     exact Nat.le_trans HI.out.len HD.out
    have r10:n % 10<10:=Nat.mod_lt _ (by decide)
    have nn:((n:Int) % 10)=((n % 10:Nat):Int):=by omega
    have nd:((n:Int) / 10)=((n / 10:Nat):Int):=by omega
    have c10e:=at10 r10
    unfold c10 at c10e
    by_cases c:b=[] ∨ 0<n
    · have HS:Hid (Dgs 10 P.natAbs (dg8 (n % 10) :: b) (n / 10)):=HI.out.step (by decide) c
      have lt:n / 10+emp (.string (sB (dg8 (n % 10) :: b)))<n+emp (.string (sB b)):=by
       have e1:emp (.string (sB (dg8 (n % 10) :: b)))=0:=rfl
       rw [e1]
       rcases c with rfl | c
       · show n / 10+0<n+1
         omega
       · omega
      have ap:=bl_append [dg8 (n % 10)] b
      have x3:(n:Int).tmod 10=((n % 10:Nat):Int):=by rw [Int.tmod_eq_emod_of_nonneg (by omega)];exact nn
      have q3:(n:Int).tdiv 10=((n / 10:Nat):Int):=by rw [Int.tdiv_eq_ediv_of_nonneg (by omega)];exact nd
      have hq5:n / 10≤5000:=by omega
      generalize hq:n / 10=q at *
      generalize hx:n % 10=x at *
      have hx10:x<10:=by omega
      have kx:((x:Int)+1)≤10:=by omega
      have hsum:¬ 9223372036854775807<(sB [dg8 x]).size+(sB b).size:=by
       have:(sB [dg8 x]).size=1:=rfl
       omega
      clear hx hq r10
      by_cases cb:b=[]
      · have es:=emp_yes cb
        clear cb c
        go_wp2
        go_round
        case rel=>exact ⟨dg8 x :: b,q,rfl,by go_num,hq5,HS⟩
        case measure=>simp only [intOf];simp;exact lt
      · have es:=emp_no cb
        have n0:(0:Int)<(n:Int):=by
         rcases c with c | c
         · exact absurd c cb
         · omega
        clear cb c
        go_wp2
        go_round
        case rel=>exact ⟨dg8 x :: b,q,rfl,by go_num,hq5,HS⟩
        case measure=>simp only [intOf];simp;exact lt
    · have cb:b ≠ []:=fun y=>c (.inl y)
      obtain rfl:n=0:=by
       apply Classical.byContradiction
       intro y
       exact c (.inr (by omega))
      have es:=emp_no cb
      have eb:=HI.out.done cb
      subst eb
      clear cb c r10 nn nd c10e hn
      have l6:(sB (fl 10 P.natAbs)).size≤64:=by rw [bl_size];exact HD.out
      have h6:¬ 9223372036854775807<t4.size+(sB (fl 10 P.natAbs)).size:=by omega
      go_wp2
      go_ret
      exact ⟨rfl,B0.out⟩
 · have hs:txD (u ++ M) (decide (P<0)) P.natAbs=[48,46] ++ u ++ M ++ [101] ++ fl 10 P.natAbs:=by rw [show decide (P<0)=false from decide_eq_false en];unfold txD;simp
   rw [hs]
   clear hs
   have l5:=l3
   have z5:=bl_append ([48,46] ++ u ++ M ++ [101]) (fl 10 P.natAbs)
   generalize hq5:sB ([48,46] ++ u ++ M ++ [101] ++ fl 10 P.natAbs)=t5 at *
   clear hq5
   generalize hq3:sB ([48,46] ++ u ++ M ++ [101])=t4 at *
   clear hq3
   have hq2:True:=trivial
   clear hq2
   generalize hq1:sB ([48,46] ++ u ++ M)=t2 at *
   clear hq1
   generalize hq0:sB ([48,46] ++ u)=t1 at *
   clear hq0
   go_wp2
   go_loop [7,6] (fun sv nv=>∃ (b:List UInt8) (n:Nat),sv=.string (sB b)∧nv=vI (n:Int)∧n≤5000∧Hid (Dgs 10 P.natAbs b n)) (fun sv nv=>(intOf nv).toNat+emp sv)
   case atStart=>exact ⟨[],P.natAbs,rfl,by rw [show (P.natAbs:Int)=P from by omega],HE.out,.inl ⟨rfl,rfl⟩⟩
   case round =>
    obtain ⟨b,n,rfl,rfl,hn,HI⟩:=hrel
    have bl:(sB b).size≤64:=by
     rw [bl_size]
     exact Nat.le_trans HI.out.len HD.out
    have r10:n % 10<10:=Nat.mod_lt _ (by decide)
    have nn:((n:Int) % 10)=((n % 10:Nat):Int):=by omega
    have nd:((n:Int) / 10)=((n / 10:Nat):Int):=by omega
    have c10e:=at10 r10
    unfold c10 at c10e
    by_cases c:b=[] ∨ 0<n
    · have HS:Hid (Dgs 10 P.natAbs (dg8 (n % 10) :: b) (n / 10)):=HI.out.step (by decide) c
      have lt:n / 10+emp (.string (sB (dg8 (n % 10) :: b)))<n+emp (.string (sB b)):=by
       have e1:emp (.string (sB (dg8 (n % 10) :: b)))=0:=rfl
       rw [e1]
       rcases c with rfl | c
       · show n / 10+0<n+1
         omega
       · omega
      have ap:=bl_append [dg8 (n % 10)] b
      have x3:(n:Int).tmod 10=((n % 10:Nat):Int):=by rw [Int.tmod_eq_emod_of_nonneg (by omega)];exact nn
      have q3:(n:Int).tdiv 10=((n / 10:Nat):Int):=by rw [Int.tdiv_eq_ediv_of_nonneg (by omega)];exact nd
      have hq5:n / 10≤5000:=by omega
      generalize hq:n / 10=q at *
      generalize hx:n % 10=x at *
      have hx10:x<10:=by omega
      have kx:((x:Int)+1)≤10:=by omega
      have hsum:¬ 9223372036854775807<(sB [dg8 x]).size+(sB b).size:=by
       have:(sB [dg8 x]).size=1:=rfl
       omega
      clear hx hq r10
      by_cases cb:b=[]
      · have es:=emp_yes cb
        clear cb c
        go_wp2
        go_round
        case rel=>exact ⟨dg8 x :: b,q,rfl,by go_num,hq5,HS⟩
        case measure=>simp only [intOf];simp;exact lt
      · have es:=emp_no cb
        have n0:(0:Int)<(n:Int):=by
         rcases c with c | c
         · exact absurd c cb
         · omega
        clear cb c
        go_wp2
        go_round
        case rel=>exact ⟨dg8 x :: b,q,rfl,by go_num,hq5,HS⟩
        case measure=>simp only [intOf];simp;exact lt
    · have cb:b ≠ []:=fun y=>c (.inl y)
      obtain rfl:n=0:=by
       apply Classical.byContradiction
       intro y
       exact c (.inr (by omega))
      have es:=emp_no cb
      have eb:=HI.out.done cb
      subst eb
      clear cb c r10 nn nd c10e hn
      have l6:(sB (fl 10 P.natAbs)).size≤64:=by rw [bl_size];exact HD.out
      have h6:¬ 9223372036854775807<t4.size+(sB (fl 10 P.natAbs)).size:=by omega
      go_wp2
      go_ret
      exact ⟨rfl,B0.out⟩
end Go.Proofs.YteeobndfnkeldaaGreatDoor
namespace Go.Proofs.YteeobndfnkeldaaGreatDoor
theorem vn_list {u : ByteArray} {P : Int} {c : Bool} (h : VN u P c) : u = sB u.data.toList ∧ u.data.toList.length = u.size ∧ (∀ x ∈ u.data.toList, isD 10 x = true) ∧ nz u.data.toList = 0 ∧ u.data.toList ≠ [] := by
  have e : u.data.toList.length = u.size := rfl
  refine ⟨rfl, e, ?_, ?_, ?_⟩
  · intro x hx
    obtain ⟨i, hi, rfl⟩ := List.mem_iff_getElem.1 hx
    have q := h.dg i hi
    have q' : (u[i]'hi) = u.data.toList[i]'hi := rfl
    rw [q'] at q
    refine decide_eq_true ?_
    unfold dv
    split
    · omega
    · omega
  · cases hl : u.data.toList with
    | nil => rfl
    | cons c r =>
      apply nz_no
      intro q
      have f := h.first
      apply f
      have e0 : (u[0]'h.pos) = u.data.toList[0]'h.pos := rfl
      rw [e0]
      simp only [hl, List.getElem_cons_zero, q]
      rfl
  · intro q
    have := h.pos
    rw [← e, q] at this
    exact absurd this (by decide)
theorem vn_last {u:ByteArray}{P:Int}(h:VN u P false) (h0:u.data.toList ≠ []):u.data.toList.getLast h0 ≠ 48:=by
 rcases h.last with q | q
 · intro y
   apply q
   rw [List.getLast_eq_getElem] at y
   have:(u[u.size - 1]'(by have:=h.pos;omega))=u.data.toList[u.data.toList.length - 1]'(by have:=h.pos;have e:u.data.toList.length=u.size:=rfl;omega):=rfl
   rw [this,y]
   rfl
 · cases q
theorem tx_pr {g f T:Nat}{L:Int}{u:ByteArray}{P:Int}{m:Nat}{x:Int}(h:DcX u P m x):prA g f T L (txD (u.data.toList ++ []) (decide (P<0)) P.natAbs)=((nrX f T L u P false).1,if (nrX f T L u P false).2 then 4 else 0):=by
 have pb:-500≤P∧P≤500:=by
  rcases h with ⟨_,_,rfl⟩ | ⟨_,_,e,_⟩
  · decide
  · rw [← e]
    exact nrP_in P
 have es:(if decide (P<0) then -(P.natAbs:Int) else (P.natAbs:Int))=P:=by
  by_cases q:P<0
  · rw [decide_eq_true q,if_pos rfl]
    omega
  · rw [decide_eq_false q,if_neg (by decide)]
    omega
 rw [List.append_nil]
 rcases h with ⟨_,rfl,rfl⟩ | ⟨_,h,_,_⟩
 · unfold prA
   rw [txt_scn (by intro c hc;cases hc) _ (by decide),de_keep (by intro c hc;cases hc) rfl (by decide) (fun h0=>absurd rfl h0) (by decide) (by decide)]
   rfl
 · obtain ⟨e1,e2,dg,n0,ne⟩:=vn_list h
   unfold prA
   rw [txt_scn dg _ (by omega),es,de_keep dg n0 (by have:=h.len;omega) (fun h0=>vn_last h h0) (by omega) (by omega),if_neg ne]
   rfl
def mr40:List UInt8:=[48,48,48,48,48,48,48,48,48,48,48,48,48,48,48,48,48,48,48,48,48,48,48,48,48,48,48,48,48,48,48,48,48,48,48,48,48,48,48,49]
theorem dgt_bl {l:List UInt8}{i:Nat}(h:i<l.length):dgt (sB l) i=(l[i]'h).toNat:=dgt_lt (s:=sB l) h
theorem dgt_left {a b:List UInt8}{i:Nat}(h:i<a.length):dgt (sB (a ++ b)) i=dgt (sB a) i:=by
 rw [dgt_bl (by rw [List.length_append];omega),dgt_bl h,List.getElem_append_left h]
theorem dvA_left (a b:List UInt8):dvA (sB (a ++ b)) 0 a.length=dvA (sB a) 0 a.length:=dvA_same fun i hi=>by rw [Nat.zero_add];exact dgt_left hi
theorem dgt_right {a b:List UInt8}{i:Nat}(h:i<b.length):dgt (sB (a ++ b)) (a.length+i)=(b[i]'h).toNat:=by
 rw [dgt_bl (by rw [List.length_append];omega),List.getElem_append_right (by omega)]
 congr 2
 omega
theorem dvA_more (a b:List UInt8):dvA (sB (a ++ b)) 0 (a.length+b.length)=dvA (sB a) 0 a.length * 10 ^ b.length+dvA (sB b) 0 b.length:=by
 rw [dvA_add,dvA_left]
 congr 1
 exact dvA_same fun i hi=>by rw [dgt_right hi,Nat.zero_add,dgt_bl hi]
theorem pw_parts (p s:Int) (k:Nat):(p - s).toNat+(s+k - p).toNat=(p - (s+k)).toNat+(s - p).toNat+k:=by omega
theorem fr_more {a b:List UInt8}(p:Int):frN (sB (a ++ b)) p * frD (sB a) p=(dvA (sB a) 0 a.length * 10 ^ b.length+dvA (sB b) 0 b.length) * 10 ^ ((p - ((a.length:Int)+b.length)).toNat+((a.length:Int) - p).toNat)∧frN (sB a) p * frD (sB (a ++ b)) p=dvA (sB a) 0 a.length * 10 ^ b.length * 10 ^ ((p - ((a.length:Int)+b.length)).toNat+((a.length:Int) - p).toNat):=by
 have s1:(sB a).size=a.length:=rfl
 have s2:(sB (a ++ b)).size=a.length+b.length:=by rw [bl_size,List.length_append]
 unfold frN frD
 rw [s1,s2,dvA_more]
 have e:(((a.length+b.length:Nat):Int))=(a.length:Int)+b.length:=by omega
 rw [e]
 constructor
 · rw [Nat.mul_assoc,← Nat.pow_add]
 · rw [Nat.mul_assoc,Nat.mul_assoc,← Nat.pow_add,← Nat.pow_add,pw_parts p a.length b.length]
   congr 2
   omega
theorem fr_pos (s:ByteArray) (p:Int):0<frD s p:=Nat.pow_pos (by decide)
theorem hM_lt {z:Int}{g n f T:Nat}{L:Int}(hz:Fz z g n f T L) {b:Nat}(hb:b<n):hM f b<2 ^ 60:=by
 have:=(parts_lim hz hb).1
 unfold hM
 have e:(2:Nat) ^ 60=1152921504606846976:=by decide
 omega
theorem ratio_key (K:Nat):∀ Q R:Nat,R≤Q → (Q+1) * K * R≤Q * K * (R+1):=by
 intro Q R h
 rw [Nat.mul_right_comm,Nat.mul_right_comm Q]
 apply Nat.mul_le_mul_right
 rw [Nat.add_mul,Nat.mul_add]
 omega
theorem ratio60 {H K:Nat}(h:0<H):(H * 10 ^ 40+1) * K * 2 ^ 60≤H * 10 ^ 40 * K * (2 ^ 60+1):=ratio_key K _ _ (Nat.le_trans (by decide) (Nat.le_mul_of_pos_left (10 ^ 40) h))
theorem tz_pr {z : Int} {g n f T : Nat} {L : Int} (hz : Fz z g n f T L) {u : ByteArray} {P : Int} {b : Nat} (hb : b < n) (h : DcX u P (hM f b) (hX f L b)) : prA g f T L (txD (u.data.toList ++ mr40) (decide (P < 0)) P.natAbs) = (b + 1, if b + 1 < n then 0 else 4) := by
  obtain ⟨en, _⟩ := fz_parts hz
  have hf := (fz_pos hz).1
  rcases h with ⟨q, _⟩ | ⟨_, h, np, v⟩
  · exact absurd q (by have := hM_pos f b; omega)
  · have pb : -500 ≤ P ∧ P ≤ 500 := by
      rw [← np]
      exact nrP_in P
    have es : (if decide (P < 0) then -(P.natAbs : Int) else (P.natAbs : Int)) = P := by
      by_cases q : P < 0
      · rw [decide_eq_true q, if_pos rfl]
        omega
      · rw [decide_eq_false q, if_neg (by decide)]
        omega
    obtain ⟨e1, e2, dg, n0, ne⟩ := vn_list h
    have len := h.len
    have val := h.val
    rw [e1] at v val
    have val' : 0 < dvA (sB u.data.toList) 0 u.data.toList.length := val
    generalize u.data.toList = l at *
    have mdg : ∀ c ∈ mr40, isD 10 c = true := by decide
    have dg2 : ∀ c ∈ l ++ mr40, isD 10 c = true := by
      intro c hc
      rcases List.mem_append.1 hc with q | q
      · exact dg c q
      · exact mdg c q
    have n2 : nz (l ++ mr40) = 0 := by
      cases l with
      | nil => exact absurd rfl ne
      | cons c r =>
        have q : c ≠ 48 := by
          intro q
          rw [q, nz_yes] at n0
          exact absurd n0 (by omega)
        exact nz_no q
    have last2 : ∀ h0 : l ++ mr40 ≠ [], (l ++ mr40).getLast h0 ≠ 48 := by
      intro h0
      rw [List.getLast_append_of_ne_nil h0 (by decide)]
      decide
    have ll : (l ++ mr40).length = l.length + 40 := by rw [List.length_append]; rfl
    have D0 := fr_pos (sB l) P
    have fin : ∀ {X : Nat × Bool}, X = (if b + 1 < n then (b + 1, false) else (n, true)) → ((sgd g false X.1, if X.2 then (4 : Int) else 0) : Nat × Int) = (b + 1, if b + 1 < n then 0 else 4) := by
      rintro X rfl
      by_cases q : b + 1 < n
      · rw [if_pos q, if_pos q]
        rfl
      · rw [if_neg q, if_neg q]
        have : n = b + 1 := by omega
        rw [this]
        rfl
    unfold prA
    rw [txt_scn dg2 _ (by omega), es]
    by_cases c : l.length + 40 ≤ 800
    · rw [de_keep dg2 n2 (by omega) last2 (by omega) (by omega), if_neg (by intro q; rw [q] at ll; exact absurd ll (by simp))]
      obtain ⟨m1, m2⟩ := fr_more (a := l) (b := mr40) P
      have v40 : dvA (sB mr40) 0 mr40.length = 1 := by decide
      rw [v40] at m1
      have l40 : mr40.length = 40 := rfl
      rw [l40] at m1 m2
      have hK : 0 < 10 ^ ((P - ((l.length : Int) + (40 : Nat))).toNat + ((l.length : Int) - P).toNat) := Nat.pow_pos (by decide)
      generalize 10 ^ ((P - ((l.length : Int) + (40 : Nat))).toNat + ((l.length : Int) - P).toNat) = K at m1 m2 hK
      have rd := more_up (n' := frN (sB (l ++ mr40)) P) (d' := frD (sB (l ++ mr40)) P) v D0 (fr_pos _ _) (hM_lt hz hb) (by rw [m1, m2]; exact Nat.mul_lt_mul_of_pos_right (Nat.lt_succ_self _) hK) (by
        rw [m1, m2]
        exact ratio60 val')
      have a := rdA_of (T := T) hf (by
        intro q
        rw [q, Nat.zero_mul] at m1
        have : 0 < (dvA (sB l) 0 l.length * 10 ^ 40 + 1) * K := Nat.mul_pos (Nat.succ_pos _) hK
        omega) (Nat.pos_iff_ne_zero.mp (fr_pos _ _)) rd
      rw [← en] at a
      show ((sgd g false (nrX f T L (sB (l ++ mr40)) P false).1, if (nrX f T L (sB (l ++ mr40)) P false).2 then (4 : Int) else 0) : Nat × Int) = _
      apply fin
      unfold nrX
      rw [if_neg (by rw [bl_size]; omega), np, a]
    · obtain ⟨k, hk⟩ : ∃ k, 800 = l.length + k := ⟨800 - l.length, by omega⟩
      have k39 : k ≤ 39 := by omega
      have tk : (l ++ mr40).take 800 = l ++ List.replicate k 48 := by
        rw [hk, List.take_append, List.take_of_length_le (by omega), show l.length + k - l.length = k from by omega]
        congr 1
        have : ∀ j : Fin 40, mr40.take j.val = List.replicate j.val 48 := by decide
        exact this ⟨k, by omega⟩
      rw [de_cut dg2 n2 (by omega) last2 (by omega) (by omega), tk]
      obtain ⟨m1, m2⟩ := fr_more (a := l) (b := List.replicate k (48 : UInt8)) P
      have v0 : dvA (sB (List.replicate k (48 : UInt8))) 0 (List.replicate k (48 : UInt8)).length = 0 := dvA_none fun i hi => by
        rw [Nat.zero_add, dgt_bl hi, List.getElem_replicate]
        rfl
      rw [v0, Nat.add_zero, ← m2] at m1
      have a := rdA_of (T := T) hf (by
        intro q
        have z : frN (sB l) P = 0 := q
        unfold frN at z
        have : 0 < dvA (sB l) 0 (sB l).size * 10 ^ (P - ((sB l).size : Int)).toNat := Nat.mul_pos val' (Nat.pow_pos (by decide))
        omega) (Nat.pos_iff_ne_zero.mp D0) (half_more v D0)
      rw [← en] at a
      show ((sgd g false (nrX f T L (sB (l ++ List.replicate k 48)) P true).1, if (nrX f T L (sB (l ++ List.replicate k 48)) P true).2 then (4 : Int) else 0) : Nat × Int) = _
      apply fin
      unfold nrX
      rw [if_neg (by rw [bl_size, List.length_append, List.length_replicate]; omega), np, ← a]
      refine rdA_same hf (Nat.pos_iff_ne_zero.mp (fr_pos _ _)) (Nat.pos_iff_ne_zero.mp D0) ?_
      rw [m1]
      exact ⟨0, Int.le_refl _, Int.le_refl _, rfl⟩
end Go.Proofs.YteeobndfnkeldaaGreatDoor
namespace Go.Proofs.YteeobndfnkeldaaGreatDoor
open Go.RowKit
theorem pex_err {b z k:Int}(k0:k ≠ 0) {w:World}(hT:Tab w) (hg:ErrT w)
 (EX:∀ W,Cb 22 #[vU b,vI z] W (.tuple #[dcV ⟨#[]⟩ 0 false,vI k])) :
 Cb 6 #[vU b,vI z] w (.bool true):=by
 have BO:=fun W=>bounds16_err (by rw [beq_eq_false_iff_ne];exact k0) (w:=W) EX
 have HT:Hid (Tab w∧ErrT w):=⟨hT,hg⟩
 have WK:=fun W (h:Tab W) (h':ErrT W)=>works18 W h h'
 clear hT hg
 unfold dcV at *
 go_enter Tryz.func6,Tryz.ntmps6
 go_wp2_with fail
 refine (EX _).mono ?_
 rintro o w1 ⟨rfl,b1⟩
 have H1:Hid (Bl w (w1.alloc (.cells #[.string ⟨#[]⟩,vI 0,.bool false] 41))):=b1.alloc b1.size _
 clear b1
 go_wp2_with fail
 refine (BO _).mono ?_
 rintro o w2 ⟨rfl,b2⟩
 have H2:Hid (Bl w w2):=H1.out.trans (b2.mono H1.out.size)
 clear b2 H1
 go_wp2_with fail
 have H3:Hid (Bl w ((w2.alloc (.cells #[.string ⟨#[]⟩,vI 0,.bool false] 41)).alloc (.cells #[.string ⟨#[]⟩,vI 0,.bool false] 41))):=(H2.out.alloc H2.out.size _).alloc (H2.out.alloc H2.out.size _).size _
 refine (WK _ (HT.out.1.next H3.out) (HT.out.2.below H3.out HT.out.2.pos)).mono ?_
 rintro o wz ⟨rfl,bz⟩
 have Bz:Hid (Bl w wz):=H3.out.trans (bz.mono H3.out.size)
 clear bz
 go_wp2
 go_ret
 exact ⟨rfl,Bz.out⟩
theorem pex_yes {b x n:Nat}{z k:Int}{kb:Bool}(hx:x<n) (hn:n<9223372036854775808) (hk:(k == 4)=kb) (hkn:(((x:Int)+1) == (n:Int))=kb) {X XH:ByteArray → Int → Prop}{XL:ByteArray → Int → Prop}{w:World}(hT:Tab w) (hg:ErrT w)
 (EX:∀ W,Calls Tryz.prog 22 #[vU (b:Int),vI z] W fun e w'=>∃ u P,e=.returned (.tuple #[dcV u P false,vI 0])∧X u P∧Bl W w')
 (BO:∀ W,Calls Tryz.prog 23 #[vU (b:Int),vI z] W fun e w'=>∃ u P u' P',e=.returned (.tuple #[dcV u P false,dcV u' P' false,.bool true,vI 0])∧XL u P∧XH u' P'∧Bl W w')
 (MG:∀ W,Cs 18 #[vU (b:Int),vI z] W (vU (x:Int)))
 (IN:∀ W,Cs 19 #[vI z] W (vU (n:Int)))
 (TX:∀ u P,X u P → ∃ t,(∀ W,Cb 24 #[dcV u P false,.string ⟨#[]⟩] W (.string t))∧∀ W,Tab W → Calls Tryz.prog 13 #[.string t,vI z,.pointer none] W fun o w'=>∃ v,o=.returned (.tuple #[vU (x:Int),v])∧ErV w' 0 cPrs t v∧Bl W w')
 (TY:∀ u P,XH u P → ∃ t,(∀ W,Cb 24 #[dcV u P false,.string ⟨#[]⟩] W (.string t))∧∀ W,Tab W → Calls Tryz.prog 13 #[.string t,vI z,.pointer none] W fun o w'=>∃ v,o=.returned (.tuple #[vU (x:Int),v])∧ErV w' 0 cPrs t v∧Bl W w')
 (TZ:∀ u P,XH u P → ∃ t,(∀ W,Cb 24 #[dcV u P false,.string ⟨#[48,48,48,48,48,48,48,48,48,48,48,48,48,48,48,48,48,48,48,48,48,48,48,48,48,48,48,48,48,48,48,48,48,48,48,48,48,48,48,49]⟩] W (.string t))∧∀ W,Tab W → Calls Tryz.prog 13 #[.string t,vI z,.pointer none] W fun o w'=>∃ v,o=.returned (.tuple #[vU ((x:Int)+1),v])∧ErV w' k cPrs t v∧Bl W w') :
 Cb 6 #[vU (b:Int),vI z] w (.bool true):=by
 have HT:Hid (Tab w∧ErrT w):=⟨hT,hg⟩
 have WK:=fun W (h:Tab W) (h':ErrT W)=>works18 W h h'
 have HTX:Hid (∀ u P,X u P → _):=TX
 have HTY:Hid (∀ u P,XH u P → _):=TY
 have HTZ:Hid (∀ u P,XH u P → _):=TZ
 have x1:(x:Int)+1<18446744073709551616:=by omega
 have x2:((x:Int) == (n:Int))=false:=by rw [beq_eq_false_iff_ne];omega
 have x3:((x:Int) == (x:Int))=true:=beq_self_eq_true _
 have x4:(((x:Int)+1) == ((x:Int)+1))=true:=beq_self_eq_true _
 clear hT hg TX TY TZ
 unfold dcV at *
 go_enter Tryz.func6,Tryz.ntmps6
 go_wp2_with fail
 refine (EX _).mono ?_
 rintro o w1 ⟨u,P,rfl,hx',b1⟩
 obtain ⟨tx,TX,PX⟩:=HTX.out u P hx'
 have H1:Hid (DcB (w1.alloc (.cells #[.string u,vI P,.bool false] 41)) w1.heap.size (.string u) (vI P) (.bool false)∧Bl w (w1.alloc (.cells #[.string u,vI P,.bool false] 41))):=⟨DcB.new w1 _ _ _ _,b1.alloc b1.size _⟩
 clear b1 hx' EX HTX
 go_wp2_with fail
 refine (BO _).mono ?_
 rintro o w2 ⟨ul,Pl,uh,Ph,rfl,hl,hh,b2⟩
 obtain ⟨ty,TY,PY⟩:=HTY.out uh Ph hh
 obtain ⟨tz,TZ,PZ⟩:=HTZ.out uh Ph hh
 have D2:Hid (DcB ((w2.alloc (.cells #[.string ul,vI Pl,.bool false] 41)).alloc (.cells #[.string uh,vI Ph,.bool false] 41)) w1.heap.size (.string u) (vI P) (.bool false)):=((H1.out.1.step b2).al _).al _
 have E2:Hid (DcB ((w2.alloc (.cells #[.string ul,vI Pl,.bool false] 41)).alloc (.cells #[.string uh,vI Ph,.bool false] 41)) (w2.heap.size+1) (.string uh) (vI Ph) (.bool false)):=by
  have q:=DcB.new (w2.alloc (.cells #[.string ul,vI Pl,.bool false] 41)) (.string uh) (vI Ph) (.bool false) 41
  show DcB _ _ _ _ _
  simpa using q
 have B2:Hid (Bl w ((w2.alloc (.cells #[.string ul,vI Pl,.bool false] 41)).alloc (.cells #[.string uh,vI Ph,.bool false] 41))):=by
  have q2:Bl w w2:=H1.out.2.trans (b2.mono H1.out.2.size)
  exact (q2.alloc q2.size _).alloc (q2.alloc q2.size _).size _
 clear b2 hl hh BO H1 HTY HTZ
 go_wp2_with fail
 refine (MG _).mono ?_
 rintro o w3 ⟨rfl,e3⟩
 rw [e3]
 clear e3 w3
 obtain ⟨_,a0,a1,a2,_,_,_⟩:=D2.out
 go_wp2_with fail
 refine (TX _).mono ?_
 rintro o w3 ⟨rfl,b3⟩
 have B3:Hid (Bl w w3):=B2.out.trans (b3.mono B2.out.size)
 have E3:Hid (DcB w3 (w2.heap.size+1) (.string uh) (vI Ph) (.bool false)):=E2.out.step b3
 clear b3 a0 a1 a2 TX D2 E2 B2
 go_wp2_with fail
 refine (PX _ (HT.out.1.next B3.out)).mono ?_
 rintro o w4 ⟨vx,rfl,ex,b4⟩
 obtain rfl:=ex.nil
 have B4:Hid (Bl w w4):=B3.out.trans (b4.mono B3.out.size)
 have E4:Hid (DcB w4 (w2.heap.size+1) (.string uh) (vI Ph) (.bool false)):=E3.out.step b4
 clear b4 ex PX B3 E3
 obtain ⟨_,a0,a1,a2,_,_,_⟩:=E4.out
 go_wp2_with fail
 refine (TY _).mono ?_
 rintro o w5 ⟨rfl,b5⟩
 have B5:Hid (Bl w w5):=B4.out.trans (b5.mono B4.out.size)
 have E5:Hid (DcB w5 (w2.heap.size+1) (.string uh) (vI Ph) (.bool false)):=E4.out.step b5
 clear b5 a0 a1 a2 TY B4 E4
 go_wp2_with fail
 refine (PY _ (HT.out.1.next B5.out)).mono ?_
 rintro o w6 ⟨vy,rfl,ey,b6⟩
 have B6:Hid (Bl w w6):=B5.out.trans (b6.mono B5.out.size)
 have E6:Hid (DcB w6 (w2.heap.size+1) (.string uh) (vI Ph) (.bool false)):=E5.out.step b6
 have Y6:Hid (ErV w6 0 cPrs ty vy):=ey
 clear b6 ey PY B5 E5
 obtain ⟨_,a0,a1,a2,_,_,_⟩:=E6.out
 go_wp2_with fail
 refine (TZ _).mono ?_
 rintro o w7 ⟨rfl,b7⟩
 have B7:Hid (Bl w w7):=B6.out.trans (b7.mono B6.out.size)
 have Y7:Hid (ErV w7 0 cPrs ty vy):=Y6.out.below b7 (Nat.le_refl _)
 clear b7 a0 a1 a2 TZ B6 E6 Y6
 go_wp2_with fail
 refine (PZ _ (HT.out.1.next B7.out)).mono ?_
 rintro o w8 ⟨vz,rfl,ez,b8⟩
 have B8:Hid (Bl w w8):=B7.out.trans (b8.mono B7.out.size)
 have NY:=num_erv (Y7.out.below b8 (Nat.le_refl _)) (HT.out.2.below B8.out HT.out.2.pos)
 have Z8:Hid (ErV w8 k cPrs tz vz):=ez
 clear b8 ez PZ B7 Y7
 go_wp2_with fail
 refine (IN _).mono ?_
 rintro o w9 ⟨rfl,e9⟩
 subst e9
 go_wp2_with fail
 all_goals first | (exfalso;omega) | skip
 refine NY.mono ?_
 rintro o w10 ⟨rfl,b10⟩
 have B10:Hid (Bl w w10):=B8.out.trans (b10.mono B8.out.size)
 have NZ:=num_erv (Z8.out.below b10 (Nat.le_refl _)) (HT.out.2.below B10.out HT.out.2.pos)
 clear b10 NY Z8 B8
 go_wp2_with fail
 all_goals first | (exfalso;omega) | skip
 refine NZ.mono ?_
 rintro o w11 ⟨rfl,b11⟩
 have B11:Hid (Bl w w11):=B10.out.trans (b11.mono B10.out.size)
 clear b11 NZ B10
 go_wp2_with fail
 all_goals first | (exfalso;omega) | skip
 refine (WK _ (HT.out.1.next B11.out) (HT.out.2.below B11.out HT.out.2.pos)).mono ?_
 rintro o wz ⟨rfl,bz⟩
 have Bz:Hid (Bl w wz):=B11.out.trans (bz.mono B11.out.size)
 clear bz
 go_wp2
 go_ret
 exact ⟨rfl,Bz.out⟩
theorem pex_no {b x n:Nat}{z k:Int}{kb:Bool}(hx:x<n) (hn:n<9223372036854775808) (hk:(k == 4)=kb) (hkn:(((x:Int)+1) == (n:Int))=kb) {X XH:ByteArray → Int → Prop}{XL:ByteArray → Int → Prop}{w:World}(hT:Tab w) (hg:ErrT w)
 (EX:∀ W,Calls Tryz.prog 22 #[vU (b:Int),vI z] W fun e w'=>∃ u P,e=.returned (.tuple #[dcV u P false,vI 0])∧X u P∧Bl W w')
 (BO:∀ W,Calls Tryz.prog 23 #[vU (b:Int),vI z] W fun e w'=>∃ u P u' P',e=.returned (.tuple #[dcV u P false,dcV u' P' false,.bool false,vI 0])∧XL u P∧XH u' P'∧Bl W w')
 (MG:∀ W,Cs 18 #[vU (b:Int),vI z] W (vU (x:Int)))
 (IN:∀ W,Cs 19 #[vI z] W (vU (n:Int)))
 (TX:∀ u P,X u P → ∃ t,(∀ W,Cb 24 #[dcV u P false,.string ⟨#[]⟩] W (.string t))∧∀ W,Tab W → Calls Tryz.prog 13 #[.string t,vI z,.pointer none] W fun o w'=>∃ v,o=.returned (.tuple #[vU (x:Int),v])∧ErV w' 0 cPrs t v∧Bl W w')
 (TY:∀ u P,XH u P → ∃ t,(∀ W,Cb 24 #[dcV u P false,.string ⟨#[]⟩] W (.string t))∧∀ W,Tab W → Calls Tryz.prog 13 #[.string t,vI z,.pointer none] W fun o w'=>∃ v,o=.returned (.tuple #[vU ((x:Int)+1),v])∧ErV w' k cPrs t v∧Bl W w')
 (TZ:∀ u P,XH u P → ∃ t,(∀ W,Cb 24 #[dcV u P false,.string ⟨#[48,48,48,48,48,48,48,48,48,48,48,48,48,48,48,48,48,48,48,48,48,48,48,48,48,48,48,48,48,48,48,48,48,48,48,48,48,48,48,49]⟩] W (.string t))∧∀ W,Tab W → Calls Tryz.prog 13 #[.string t,vI z,.pointer none] W fun o w'=>∃ v,o=.returned (.tuple #[vU ((x:Int)+1),v])∧ErV w' k cPrs t v∧Bl W w') :
 Cb 6 #[vU (b:Int),vI z] w (.bool true):=by
 have HT:Hid (Tab w∧ErrT w):=⟨hT,hg⟩
 have WK:=fun W (h:Tab W) (h':ErrT W)=>works18 W h h'
 have HTX:Hid (∀ u P,X u P → _):=TX
 have HTY:Hid (∀ u P,XH u P → _):=TY
 have HTZ:Hid (∀ u P,XH u P → _):=TZ
 have x1:(x:Int)+1<18446744073709551616:=by omega
 have x2:((x:Int) == (n:Int))=false:=by rw [beq_eq_false_iff_ne];omega
 have x3:((x:Int) == (x:Int))=true:=beq_self_eq_true _
 have x4:(((x:Int)+1) == ((x:Int)+1))=true:=beq_self_eq_true _
 clear hT hg TX TY TZ
 unfold dcV at *
 go_enter Tryz.func6,Tryz.ntmps6
 go_wp2_with fail
 refine (EX _).mono ?_
 rintro o w1 ⟨u,P,rfl,hx',b1⟩
 obtain ⟨tx,TX,PX⟩:=HTX.out u P hx'
 have H1:Hid (DcB (w1.alloc (.cells #[.string u,vI P,.bool false] 41)) w1.heap.size (.string u) (vI P) (.bool false)∧Bl w (w1.alloc (.cells #[.string u,vI P,.bool false] 41))):=⟨DcB.new w1 _ _ _ _,b1.alloc b1.size _⟩
 clear b1 hx' EX HTX
 go_wp2_with fail
 refine (BO _).mono ?_
 rintro o w2 ⟨ul,Pl,uh,Ph,rfl,hl,hh,b2⟩
 obtain ⟨ty,TY,PY⟩:=HTY.out uh Ph hh
 obtain ⟨tz,TZ,PZ⟩:=HTZ.out uh Ph hh
 have D2:Hid (DcB ((w2.alloc (.cells #[.string ul,vI Pl,.bool false] 41)).alloc (.cells #[.string uh,vI Ph,.bool false] 41)) w1.heap.size (.string u) (vI P) (.bool false)):=((H1.out.1.step b2).al _).al _
 have E2:Hid (DcB ((w2.alloc (.cells #[.string ul,vI Pl,.bool false] 41)).alloc (.cells #[.string uh,vI Ph,.bool false] 41)) (w2.heap.size+1) (.string uh) (vI Ph) (.bool false)):=by
  have q:=DcB.new (w2.alloc (.cells #[.string ul,vI Pl,.bool false] 41)) (.string uh) (vI Ph) (.bool false) 41
  show DcB _ _ _ _ _
  simpa using q
 have B2:Hid (Bl w ((w2.alloc (.cells #[.string ul,vI Pl,.bool false] 41)).alloc (.cells #[.string uh,vI Ph,.bool false] 41))):=by
  have q2:Bl w w2:=H1.out.2.trans (b2.mono H1.out.2.size)
  exact (q2.alloc q2.size _).alloc (q2.alloc q2.size _).size _
 clear b2 hl hh BO H1 HTY HTZ
 go_wp2_with fail
 refine (MG _).mono ?_
 rintro o w3 ⟨rfl,e3⟩
 rw [e3]
 clear e3 w3
 obtain ⟨_,a0,a1,a2,_,_,_⟩:=D2.out
 go_wp2_with fail
 refine (TX _).mono ?_
 rintro o w3 ⟨rfl,b3⟩
 have B3:Hid (Bl w w3):=B2.out.trans (b3.mono B2.out.size)
 have E3:Hid (DcB w3 (w2.heap.size+1) (.string uh) (vI Ph) (.bool false)):=E2.out.step b3
 clear b3 a0 a1 a2 TX D2 E2 B2
 go_wp2_with fail
 refine (PX _ (HT.out.1.next B3.out)).mono ?_
 rintro o w4 ⟨vx,rfl,ex,b4⟩
 obtain rfl:=ex.nil
 have B4:Hid (Bl w w4):=B3.out.trans (b4.mono B3.out.size)
 have E4:Hid (DcB w4 (w2.heap.size+1) (.string uh) (vI Ph) (.bool false)):=E3.out.step b4
 clear b4 ex PX B3 E3
 obtain ⟨_,a0,a1,a2,_,_,_⟩:=E4.out
 go_wp2_with fail
 refine (TY _).mono ?_
 rintro o w5 ⟨rfl,b5⟩
 have B5:Hid (Bl w w5):=B4.out.trans (b5.mono B4.out.size)
 have E5:Hid (DcB w5 (w2.heap.size+1) (.string uh) (vI Ph) (.bool false)):=E4.out.step b5
 clear b5 a0 a1 a2 TY B4 E4
 go_wp2_with fail
 refine (PY _ (HT.out.1.next B5.out)).mono ?_
 rintro o w6 ⟨vy,rfl,ey,b6⟩
 have B6:Hid (Bl w w6):=B5.out.trans (b6.mono B5.out.size)
 have E6:Hid (DcB w6 (w2.heap.size+1) (.string uh) (vI Ph) (.bool false)):=E5.out.step b6
 have Y6:Hid (ErV w6 k cPrs ty vy):=ey
 clear b6 ey PY B5 E5
 obtain ⟨_,a0,a1,a2,_,_,_⟩:=E6.out
 go_wp2_with fail
 refine (TZ _).mono ?_
 rintro o w7 ⟨rfl,b7⟩
 have B7:Hid (Bl w w7):=B6.out.trans (b7.mono B6.out.size)
 have Y7:Hid (ErV w7 k cPrs ty vy):=Y6.out.below b7 (Nat.le_refl _)
 clear b7 a0 a1 a2 TZ B6 E6 Y6
 go_wp2_with fail
 refine (PZ _ (HT.out.1.next B7.out)).mono ?_
 rintro o w8 ⟨vz,rfl,ez,b8⟩
 have B8:Hid (Bl w w8):=B7.out.trans (b8.mono B7.out.size)
 have NY:=num_erv (Y7.out.below b8 (Nat.le_refl _)) (HT.out.2.below B8.out HT.out.2.pos)
 have Z8:Hid (ErV w8 k cPrs tz vz):=ez
 clear b8 ez PZ B7 Y7
 go_wp2_with fail
 refine (IN _).mono ?_
 rintro o w9 ⟨rfl,e9⟩
 subst e9
 go_wp2_with fail
 all_goals first | (exfalso;omega) | skip
 refine NY.mono ?_
 rintro o w10 ⟨rfl,b10⟩
 have B10:Hid (Bl w w10):=B8.out.trans (b10.mono B8.out.size)
 have NZ:=num_erv (Z8.out.below b10 (Nat.le_refl _)) (HT.out.2.below B10.out HT.out.2.pos)
 clear b10 NY Z8 B8
 go_wp2_with fail
 all_goals first | (exfalso;omega) | skip
 refine NZ.mono ?_
 rintro o w11 ⟨rfl,b11⟩
 have B11:Hid (Bl w w11):=B10.out.trans (b11.mono B10.out.size)
 clear b11 NZ B10
 go_wp2_with fail
 all_goals first | (exfalso;omega) | skip
 refine (WK _ (HT.out.1.next B11.out) (HT.out.2.below B11.out HT.out.2.pos)).mono ?_
 rintro o wz ⟨rfl,bz⟩
 have Bz:Hid (Bl w wz):=B11.out.trans (bz.mono B11.out.size)
 clear bz
 go_wp2
 go_ret
 exact ⟨rfl,Bz.out⟩
theorem runp_noX {s:Int}(h:Sn s) (b:Int) (w:World):Cb 43 #[vU b,vI s] w (.tuple #[.agg #[.bool false,vI 0,vU 0,vI 0],vI 5]):=by
 have H:=fun W=>rcheck_no h b W
 go_enter Tryz.func43,Tryz.ntmps43
 go_wp2_with fail
 refine (H _).mono ?_
 rintro e w1 ⟨rfl,rfl⟩
 go_wp2
 exact bodyPost_ret (v:=.tuple #[.agg #[.bool false,vI 0,vU 0,vI 0],vI 5]) (by simp [results,Tryz.results43,go_sem]) rfl ⟨rfl,bz _ _⟩
theorem runp_bigX {b:Nat}(h:4294967296≤b) (w:World):Cb 43 #[vU (b:Int),vI 32] w (.tuple #[.agg #[.bool false,vI 0,vU 0,vI 0],vI 1]):=by
 have H:=fun W=>rcheck_big h W
 go_enter Tryz.func43,Tryz.ntmps43
 go_wp2_with fail
 refine (H _).mono ?_
 rintro e w1 ⟨rfl,rfl⟩
 go_wp2
 exact bodyPost_ret (v:=.tuple #[.agg #[.bool false,vI 0,vU 0,vI 0],vI 1]) (by simp [results,Tryz.results43,go_sem]) rfl ⟨rfl,bz _ _⟩
theorem ex_atX {z:Int}{g n f T:Nat}{L:Int}(hz:Fz z g n f T L) {b:Nat}(hb:b<2 * g) (hm:mg g b<n) (W:World):Calls Tryz.prog 22 #[vU (b:Int),vI z] W fun e w'=>∃ u P,e=.returned (.tuple #[dcV u P false,vI 0])∧DcX u P (mt f (mg g b)) (xp f L (mg g b))∧Bl W w':=by
 refine (exact16_ok hz hb hm W).mono ?_
 rintro o w' ⟨u,P,rfl,h,hw⟩
 refine ⟨u,P,rfl,?_,hw⟩
 have U:=uM_lim hz hm
 rw [U.2.2.2.2.1] at h
 by_cases b0:mg g b=0
 · rw [b0,mt_nought] at h ⊢
   rcases h with h | ⟨q,_⟩
   · exact .inl h
   · exact absurd q (by decide)
 · rw [U.2.2.2.2.2 b0] at h
   exact h
theorem dcx_bd {u:ByteArray}{P:Int}{m:Nat}{x:Int}(h:DcX u P m x):u.data.toList.length≤800 ∧ -5000≤P∧P≤5000:=by
 rcases h with ⟨_,rfl,rfl⟩ | ⟨_,h,e,_⟩
 · decide
 · have q:=nrP_in P
   rw [e] at q
   exact ⟨h.len,by omega,by omega⟩
theorem txD_len {D:List UInt8}(hD:D.length≤900) (neg:Bool) {e:Nat}(he:e≤5000):(txD D neg e).length≤1048600:=by
 have a:=fl10_le he
 unfold txD
 simp only [List.length_cons,List.length_append]
 have c:(if neg then [45] else ([]:List UInt8)).length≤1:=by split <;> decide
 omega
theorem pexact_law {b:Nat}(hb:b<18446744073709551616) (z:Int) (w:World) (hT:Tab w) (hg:ErrT w) :
 Cb 6 #[vU (b:Int),vI z] w (.bool true):=by
 rcases fz_ofH z with h | ⟨g,n,f,T,L,hz⟩
 · exact pex_err (k:=5) (by decide) hT hg (fun W=>exact16_err (by decide) fun W=>runp_noX h b W)
 · obtain ⟨en,ngn,h2,g0⟩:=fz_parts hz
   have n0:=(fz_pos hz).2.2
   rcases Nat.lt_or_ge b (2 * g) with h | h
   · have UN:=fun W=>runp_z hz h W
     have MG:=fun W=>rmag_z hz h W
     have IN:=fun W=>rinf_z hz W
     rw [← en] at IN
     have ok:mg g b<n → Cb 6 #[vU (b:Int),vI z] w (.bool true):=by
      intro hm
      have EX:=fun W=>ex_atX hz h hm W
      have BO:∀ W,Calls Tryz.prog 23 #[vU (b:Int),vI z] W fun e w'=>∃ u P u' P',e=.returned (.tuple #[dcV u P false,dcV u' P' false,.bool (decide (mg g b % 2=0)),vI 0])∧True∧DcX u' P' (hM f (mg g b)) (hX f L (mg g b))∧Bl W w':=by
       intro W
       by_cases b0:mg g b=0
       · refine (bounds16_zero hz h b0 (w:=W)).mono ?_
         rintro o w' ⟨u,P,u',P',rfl,_,k,q⟩
         exact ⟨u,P,u',P',by rw [b0];rfl,trivial,by rw [b0];exact k,q⟩
       · refine (bounds16_some hz b0 hm h rfl (w:=W)).mono ?_
         rintro o w' ⟨u,P,u',P',rfl,_,k,q⟩
         exact ⟨u,P,u',P',rfl,trivial,k,q⟩
      generalize hx:mg g b=x at *
      have TX:∀ u P,DcX u P (mt f x) (xp f L x) → ∃ t,(∀ W,Cb 24 #[dcV u P false,.string ⟨#[]⟩] W (.string t))∧∀ W,Tab W → Calls Tryz.prog 13 #[.string t,vI z,.pointer none] W fun o w'=>∃ v,o=.returned (.tuple #[vU (x:Int),v])∧ErV w' 0 cPrs t v∧Bl W w':=by
       intro u P k
       obtain ⟨k1,k2,k3⟩:=dcx_bd k
       refine ⟨_,fun W=>text_ok (u:=u.data.toList) (M:=[]) k1 (by decide) k2 k3 W,fun W t=>?_⟩
       have q:=parse_nil hz t (l:=txD (u.data.toList ++ []) (decide (P<0)) P.natAbs) (txD_len (by rw [List.append_nil];omega) _ (by omega))
       rw [tx_pr k,DcX.val hz hm k] at q
       exact q
      have TZ:∀ u P,DcX u P (hM f x) (hX f L x) → ∃ t,(∀ W,Cb 24 #[dcV u P false,.string ⟨#[48,48,48,48,48,48,48,48,48,48,48,48,48,48,48,48,48,48,48,48,48,48,48,48,48,48,48,48,48,48,48,48,48,48,48,48,48,48,48,49]⟩] W (.string t))∧∀ W,Tab W → Calls Tryz.prog 13 #[.string t,vI z,.pointer none] W fun o w'=>∃ v,o=.returned (.tuple #[vU ((x:Int)+1),v])∧ErV w' (if x+1<n then 0 else 4) cPrs t v∧Bl W w':=by
       intro u P k
       obtain ⟨k1,k2,k3⟩:=dcx_bd k
       refine ⟨_,fun W=>text_ok (u:=u.data.toList) (M:=mr40) k1 (by decide) k2 k3 W,fun W t=>?_⟩
       have q:=parse_nil hz t (l:=txD (u.data.toList ++ mr40) (decide (P<0)) P.natAbs) (txD_len (by rw [List.length_append];have:mr40.length=40:=rfl;omega) _ (by omega))
       rw [tz_pr hz hm k] at q
       exact q
      have TY:∀ u P,DcX u P (hM f x) (hX f L x) → ∃ t,(∀ W,Cb 24 #[dcV u P false,.string ⟨#[]⟩] W (.string t))∧∀ W,Tab W → Calls Tryz.prog 13 #[.string t,vI z,.pointer none] W fun o w'=>∃ v,o=.returned (.tuple #[vU ((if x % 2=0 then x else x+1:Nat):Int),v])∧ErV w' (if (if x % 2=0 then x else x+1)<n then 0 else 4) cPrs t v∧Bl W w':=by
       intro u P k
       obtain ⟨k1,k2,k3⟩:=dcx_bd k
       refine ⟨_,fun W=>text_ok (u:=u.data.toList) (M:=[]) k1 (by decide) k2 k3 W,fun W t=>?_⟩
       have q:=parse_nil hz t (l:=txD (u.data.toList ++ []) (decide (P<0)) P.natAbs) (txD_len (by rw [List.append_nil];omega) _ (by omega))
       rw [tx_pr k,DcX.half hz k] at q
       by_cases c:(if x % 2=0 then x else x+1)<n
       · rw [if_pos c] at q ⊢
         exact q
       · rw [if_neg c] at q ⊢
         have e:n=(if x % 2=0 then x else x+1):=by
          have:(if x % 2=0 then x else x+1)≤x+1:=by split <;> omega
          omega
         rw [← e]
         exact q
      have kb:((if x+1<n then (0:Int) else 4) == 4)=decide (x+1=n):=by
       by_cases c:x+1<n
       · rw [if_pos c,decide_eq_false (by omega)]
         rfl
       · rw [if_neg c,decide_eq_true (by omega)]
         rfl
      have kn:(((x:Int)+1) == (n:Int))=decide (x+1=n):=by
       by_cases c:x+1=n
       · rw [decide_eq_true c,beq_iff_eq]
         omega
       · rw [decide_eq_false c,beq_eq_false_iff_ne]
         omega
      by_cases c:x % 2=0
      · rw [decide_eq_true c] at BO
        simp only [if_pos c,if_pos hm] at TY
        exact pex_yes (XL:=fun _ _=>True) hm (by omega) kb kn hT hg EX BO MG IN TX TY TZ
      · rw [decide_eq_false c] at BO
        simp only [if_neg c] at TY
        exact pex_no (XL:=fun _ _=>True) hm (by omega) kb kn hT hg EX BO MG IN TX TY TZ
     rcases cl_cases n (mg g b) with ⟨q,k⟩ | ⟨q,q',k⟩ | ⟨q,q',k⟩ | ⟨q,k⟩
     · exact ok (by omega)
     · exact ok q'
     · rw [k] at UN
       exact pex_err (k:=1) (by decide) hT hg (fun W=>exact16_inf UN)
     · rw [k] at UN
       exact pex_err (k:=1) (by decide) hT hg (fun W=>exact16_nan UN)
   · rcases hz with ⟨rfl,rfl,_⟩ | ⟨rfl,rfl,_⟩
     · exact pex_err (k:=1) (by decide) hT hg (fun W=>exact16_err (by decide) fun W=>runp_bigX h W)
     · omega
end Go.Proofs.YteeobndfnkeldaaGreatDoor
