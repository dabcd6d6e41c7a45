/-
  Holds: PsC PsD PsE PsK.
-/
import Derived.Test.YtejgpbhionadbaaGreatDoorShelf
import Derived.Lib.ItoaNum
import Derived.WalkSpells
import Derived.WalkLawsBesides
import Derived.Lib.Mul64
import Derived.Lib.TrailingZeros
import Derived.Deep.OwnRows
import Derived.Laws.CopyOwn
import Derived.BigQuiet
import Derived.Deep.RegionHeld3
import Derived.Deep.LoopGhost
import Derived.Deep.AppendLies
import Derived.Deep.DeepCutAuto
import Derived.Stop.Asserts
import Derived.RowKitTokens
import Derived.Lib.BufferWrite
import Derived.Lib.ConvBytes
import Derived.Test.YtejgpbhionadbaaGreatDoorRows
import Derived.Laws.EntriesVeiled
import Derived.Test.YtejgpbhionadbaaGreatDoorXl35
import Derived.Test.YtejgpbhionadbaaGreatDoorXl36
import Derived.Test.YtejgpbhionadbaaGreatDoorXl39
import Derived.Test.YtejgpbhionadbaaGreatDoorXl40
set_option maxRecDepth 100000
set_option maxHeartbeats 4000000
namespace Go.Proofs.YtejgpbhionadbaaGreatDoor
open Go.RowKit
theorem aJY {z:Int}{X E:Value}{c:Bool}{d:ByteArray}{q:Int}{u:Bool}{m:Nat}{e:Int}{r:Bool}{po:Option Addr}{w:World}(N:∀ W,Cb 46 #[vI z] W (.tuple #[X,E])) :
 Cb 28 #[ptV c 4 d q u (m:Int) e r,vI z,.pointer po] w (.tuple #[X,E]):=by
 have B0:Hid (Bl w (w.alloc (.cells #[.bool c,vI 4,.string d,vI q,.bool u,vU (m:Int),vI e,.bool r] 43))):=bz _ _
 have G0:Hid (PtB (w.alloc (.cells #[.bool c,vI 4,.string d,vI q,.bool u,vU (m:Int),vI e,.bool r] 43)) w.heap.size c 4 d q u (m:Int) e r):=PtB.new w _ _ _ _ _ _ _ _ _
 unfold ptV at *
 obtain ⟨_,a0,a1,a2,a3,a4,a5,a6,a7⟩:=G0.out
 go_enter Tryz.func28,Tryz.ntmps28
 go_wp2_with fail
 refine (N _).mono ?_
 rintro o w1 ⟨rfl,b1⟩
 have B1:Hid (Bl w w1):=B0.out.trans (b1.mono B0.out.size)
 clear b1
 go_wp2
 go_ret2
 exact ⟨rfl,B1.out⟩
theorem aJX {z:Int}{X E:Value}{c:Bool}{d:ByteArray}{q:Int}{u:Bool}{m:Nat}{e:Int}{r:Bool}{po:Option Addr}{w:World}(N:∀ W,Cb 47 #[.bool c,vI z] W (.tuple #[X,E])) :
 Cb 28 #[ptV c 3 d q u (m:Int) e r,vI z,.pointer po] w (.tuple #[X,E]):=by
 have B0:Hid (Bl w (w.alloc (.cells #[.bool c,vI 3,.string d,vI q,.bool u,vU (m:Int),vI e,.bool r] 43))):=bz _ _
 have G0:Hid (PtB (w.alloc (.cells #[.bool c,vI 3,.string d,vI q,.bool u,vU (m:Int),vI e,.bool r] 43)) w.heap.size c 3 d q u (m:Int) e r):=PtB.new w _ _ _ _ _ _ _ _ _
 unfold ptV at *
 obtain ⟨_,a0,a1,a2,a3,a4,a5,a6,a7⟩:=G0.out
 go_enter Tryz.func28,Tryz.ntmps28
 go_wp2_with fail
 refine (N _).mono ?_
 rintro o w1 ⟨rfl,b1⟩
 have B1:Hid (Bl w w1):=B0.out.trans (b1.mono B0.out.size)
 clear b1
 go_wp2
 go_ret2
 exact ⟨rfl,B1.out⟩
theorem aJW {z:Int}{X E:Value}{c:Bool}{d:ByteArray}{q:Int}{u:Bool}{m:Nat}{e:Int}{r:Bool}{po:Option Addr}{w:World}(N:∀ W,Bl w W -> Cb 48 #[ptV c 2 d q u (m:Int) e r,vI z] W (.tuple #[X,E])) :
 Cb 28 #[ptV c 2 d q u (m:Int) e r,vI z,.pointer po] w (.tuple #[X,E]):=by
 have B0:Hid (Bl w (w.alloc (.cells #[.bool c,vI 2,.string d,vI q,.bool u,vU (m:Int),vI e,.bool r] 43))):=bz _ _
 have G0:Hid (PtB (w.alloc (.cells #[.bool c,vI 2,.string d,vI q,.bool u,vU (m:Int),vI e,.bool r] 43)) w.heap.size c 2 d q u (m:Int) e r):=PtB.new w _ _ _ _ _ _ _ _ _
 unfold ptV at *
 obtain ⟨_,a0,a1,a2,a3,a4,a5,a6,a7⟩:=G0.out
 go_enter Tryz.func28,Tryz.ntmps28
 go_wp2_with fail
 refine (N _ B0.out).mono ?_
 rintro o w1 ⟨rfl,b1⟩
 have B1:Hid (Bl w w1):=B0.out.trans (b1.mono B0.out.size)
 clear b1
 go_wp2
 go_ret2
 exact ⟨rfl,B1.out⟩
theorem aHM {z:Int}{X:Value}{c:Bool}{m:Nat}{e:Int}{r:Bool}{po:Option Addr}{w:World}(N:∀ W,Cb 49 #[.bool c,vI z] W (.tuple #[X,.nilIface])) :
 Cb 28 #[ptV c 1 ⟨#[]⟩ 0 false (m:Int) e r,vI z,.pointer po] w (.tuple #[X,.nilIface]):=by
 have B0:Hid (Bl w (w.alloc (.cells #[.bool c,vI 1,.string ⟨#[]⟩,vI 0,.bool false,vU (m:Int),vI e,.bool r] 43))):=bz _ _
 have G0:Hid (PtB (w.alloc (.cells #[.bool c,vI 1,.string ⟨#[]⟩,vI 0,.bool false,vU (m:Int),vI e,.bool r] 43)) w.heap.size c 1 ⟨#[]⟩ 0 false (m:Int) e r):=PtB.new w _ _ _ _ _ _ _ _ _
 unfold ptV at *
 obtain ⟨_,a0,a1,_⟩:=G0.out
 go_enter Tryz.func28,Tryz.ntmps28
 go_wp2_with fail
 refine (N _).mono ?_
 rintro o w1 ⟨rfl,b1⟩
 have B1:Hid (Bl w w1):=B0.out.trans (b1.mono B0.out.size)
 have G1:Hid (PtB w1 w.heap.size c 1 ⟨#[]⟩ 0 false (m:Int) e r):=G0.out.step b1
 clear b1 a0 a1
 obtain ⟨_,a0,a1,a2,a3,a4,a5,a6,a7⟩:=G1.out
 go_wp2
 go_ret2
 exact ⟨rfl,B1.out⟩
theorem aJV {z:Int}{s x:Nat}{E:Value}{c:Bool}{d:ByteArray}(hd:0<d.size) {q:Int}{u:Bool}{m:Nat}{e:Int}{r:Bool}{po:Option Addr}{w:World}{y:Int}(or:bits .or .u64 (s:Int) (x:Int)=y)
 (N:∀ W,Cb 49 #[.bool c,vI z] W (.tuple #[vU (s:Int),.nilIface])) {R:World -> World -> Prop}
 (MG:∀ W,Bl w W -> Calls Tryz.prog 50 #[dcV d q u,vI z,.pointer po] W fun o w'=>o=.returned (.tuple #[vU (x:Int),E])/\R W w') :
 Calls Tryz.prog 28 #[ptV c 1 d q u (m:Int) e r,vI z,.pointer po] w fun o w'=>o=.returned (.tuple #[vU y,E])/\∃ w1,Bl w w1/\R w1 w':=by
 have B0:Hid (Bl w (w.alloc (.cells #[.bool c,vI 1,.string d,vI q,.bool u,vU (m:Int),vI e,.bool r] 43))):=bz _ _
 have G0:Hid (PtB (w.alloc (.cells #[.bool c,vI 1,.string d,vI q,.bool u,vU (m:Int),vI e,.bool r] 43)) w.heap.size c 1 d q u (m:Int) e r):=PtB.new w _ _ _ _ _ _ _ _ _
 have ne:(d.toList == ([]:List UInt8))=false:=by
  rw [beq_eq_false_iff_ne]
  intro h
  rw [dD] at h
  have e:d.size=0:=congrArg List.length h
  omega
 unfold ptV dcV at *
 obtain ⟨_,a0,a1,_⟩:=G0.out
 go_enter Tryz.func28,Tryz.ntmps28
 go_wp2_with fail
 refine (N _).mono ?_
 rintro o w1 ⟨rfl,b1⟩
 have B1:Hid (Bl w w1):=B0.out.trans (b1.mono B0.out.size)
 have G1:Hid (PtB w1 w.heap.size c 1 d q u (m:Int) e r):=G0.out.step b1
 clear b1 a0 a1
 obtain ⟨_,a0,a1,a2,a3,a4,a5,a6,a7⟩:=G1.out
 go_wp2_with fail
 refine (MG _ B1.out).mono ?_
 rintro o w2 ⟨rfl,r2⟩
 have R2:Hid (R w1 w2):=r2
 clear r2 a0 a1 a2 a3 a4 a5 a6 a7
 go_wp2
 go_ret2
 exact ⟨rfl,w1,B1.out,R2.out⟩
def Vrd (mb:Option Nat) (W:World) (P:Pt) (lt:Prop):Prop:=if P.kind=1/\P.dd ≠ [] then Rds mb W lt else Mq mb 0 0 W 0 0
def Lgt (M K:Nat) (P:Pt):Prop:=P.dc=false/\(sB P.dd).size<=19/\hdM (sB P.dd)<=M /\ -(K:Int)<=hdE (sB P.dd) P.dp/\hdE (sB P.dd) P.dp<=K
theorem Vrd.step {mb:Option Nat}{W W':World}{P:Pt}{lt:Prop}(h:Vrd mb W P lt) (b:Bl W W'):Vrd mb W' P lt:=by
 unfold Vrd at *
 split
 . rename_i q
   rw [if_pos q] at h
   exact h.step b
 . rename_i q
   rw [if_neg q] at h
   exact h.step b
theorem aLm    {z : Int} {g n f T : Nat} {L : Int} (hz : Fz z g n f T L) (c : Bool) {x : Nat} (hx : x < g) : bits .or .u64 ((sgd g c 0 : Nat) : Int) (x : Int) = ((sgd g c x : Nat) : Int) := by
  have co : ∀ a b : Nat, a < 18446744073709551616 → b < 18446744073709551616 → bits .or .u64 (a : Int) (b : Int) = bits .or .u64 (b : Int) (a : Int) := fun a b ha hb => by
    rw [bits_or_u64_nat a b ha hb, bits_or_u64_nat b a hb ha, Nat.or_comm]
  obtain ⟨_, _, _, _, g2⟩ := fA      hz
  cases c with
  | false =>
    show bits .or .u64 ((0 : Nat) : Int) (x : Int) = (x : Int)
    rw [bits_or_u64_nat 0 x (by omega) (by omega), Nat.zero_or]
  | true =>
    show bits .or .u64 ((0 + g : Nat) : Int) (x : Int) = ((x + g : Nat) : Int)
    rw [Nat.zero_add, co g x (by omega) (by omega)]
    rcases hz with ⟨_, rfl, _⟩ | ⟨_, rfl, _⟩
    · exact kL         hx
    · exact kM         hx
theorem aAH {z:Int}{g n f T:Nat}{L:Int}(hz:Fz z g n f T L) {M K:Nat}(hx:Xz z f T L M K) {mb:Option Nat}{w0 W:World}(mq:Mq mb 0 0 W 0 0) (F:Frm mb w0 W) (hT:Tab w0) {P:Pt}(hP:POk P) :
 Calls Tryz.prog 28 #[spV P,vI z,mqV mb] W fun o W'=>o=.returned (.tuple #[vU (((ofP g f T L P).1:Nat):Int),if (ofP g f T L P).2 then .iface 63 (vI 4) else .nilIface])/\Bt mb W W'/\Vrd mb W' P (Lgt M K P):=by
 obtain ⟨po,hpo⟩:∃ po,mqV mb=.pointer po:=by cases mb <;> exact ⟨_,rfl⟩
 obtain ⟨f0,T2,hn,ng,g2⟩:=fA hz
 obtain ⟨c,k,dd,q,u,m,e,r⟩:=P
 have hv:spV ⟨c,k,dd,q,u,m,e,r⟩=ptV c k (sB dd) q u (m:Int) e r:=rfl
 rw [hv]
 have rest:∀ {o:Ending} {W':World} {X:Nat} {ov:Bool},ofP g f T L ⟨c,k,dd,q,u,m,e,r⟩=(X,ov) -> ¬ (k=1/\dd ≠ []) -> o=.returned (.tuple #[vU ((X:Nat):Int),if ov then .iface 63 (vI 4) else .nilIface])/\Bl W W' ->
  o=.returned (.tuple #[vU (((ofP g f T L ⟨c,k,dd,q,u,m,e,r⟩).1:Nat):Int),if (ofP g f T L ⟨c,k,dd,q,u,m,e,r⟩).2 then .iface 63 (vI 4) else .nilIface])/\Bt mb W W'/\Vrd mb W' ⟨c,k,dd,q,u,m,e,r⟩ (Lgt M K ⟨c,k,dd,q,u,m,e,r⟩):=by
  rintro o W' X ov he hk ⟨rfl,b⟩
  rw [he]
  refine ⟨rfl,Bt.of b,?_⟩
  unfold Vrd
  rw [if_neg hk]
  exact mq.step b
 rcases hP with ⟨rfl,hd⟩ | ⟨rfl,hm,h0,h1,hc⟩ | rfl | ⟨rfl,rfl⟩
 . rcases hd with ⟨s0,p0,c0⟩ | hd
   . have d0:dd=[]:=List.eq_nil_of_length_eq_zero s0
     change q=0 at p0
     change u=false at c0
     subst d0 p0 c0
     rw [hpo]
     refine (aHM (fun W=>rP hz c W)).mono fun o w' h=>rest (X:=sgd g c 0) (ov:=false) ?_ (by simp) ⟨h.1,h.2⟩
     rfl
   . have MG:=fun W' (b:Bl W W')=>aK7 hz hx (mq.step b) (F.below b) hT hd
     have xl:(nrX f T L (sB dd) q u).1<g:=by
      have:=(qT (f:=f) (T:=T) (L:=L) (d:=sB dd) (p:=q) (c:=u) (by omega)).1
      omega
     rw [hpo] at MG ⊢
     refine (aJV hd.pos (aLm hz c xl) (fun W=>rP hz c W) (R:=fun W W'=>Bt mb W W'/\Rds mb W' (u=false/\(sB dd).size<=19/\hdM (sB dd)<=M /\ -(K:Int)<=hdE (sB dd) q/\hdE (sB dd) q<=K)) (fun W' b=>(MG W' b).mono fun o w' h=>⟨h.1,h.2.1,h.2.2⟩)).mono ?_
     rintro o w' ⟨rfl,w1,b1,b2,rd⟩
     refine ⟨rfl,(Bt.of b1).trans b2,?_⟩
     unfold Vrd
     rw [if_pos ⟨rfl,fun z=>absurd hd.pos (by show ¬ 0<(sB dd).size;rw [show dd=[] from z];decide)⟩]
     exact rd
 . rw [hpo]
   refine (aJW (X:=vU ((sgd g c (rdA f T L m 1 e r).1:Nat):Int)) (E:=if (rdA f T L m 1 e r).2 then .iface 63 (vI 4) else .nilIface) (fun W' b=>?_)).mono fun o w' h=>rest (X:=sgd g c (rdA f T L m 1 e r).1) (ov:=(rdA f T L m 1 e r).2) rfl (fun z=>absurd z.1 (by decide)) h
   refine (aKZ hz c (sB dd) q u hm e r W' (F.tab hT |>.next b)).mono ?_
   rintro o w' ⟨rfl,b'⟩
   rw [aIX hz hc]
   exact ⟨rfl,b'⟩
 . rw [hpo]
   exact (aJX (X:=vU ((sgd g c (T * 2 ^ f):Nat):Int)) (E:=.nilIface) (fun W=>nT hz c W)).mono fun o w' h=>rest (X:=sgd g c (T * 2 ^ f)) (ov:=false) rfl (fun z=>absurd z.1 (by decide)) h
 . rw [hpo]
   refine (aJY (X:=vU ((T * 2 ^ f+2 ^ (f - 1):Nat):Int)) (E:=.nilIface) (fun W=>?_)).mono fun o w' h=>rest (X:=T * 2 ^ f+2 ^ (f - 1)) (ov:=false) rfl (fun z=>absurd z.1 (by decide)) h
   rcases hz with ⟨rfl,_,_,rfl,rfl,_⟩ | ⟨rfl,_,_,rfl,rfl,_⟩
   . exact aIl W
   . exact aIm W
def aF:ByteArray:=⟨#[80,97,114,115,101]⟩
def lR:ByteArray:=⟨#[80,114,101,102,105,120]⟩
theorem aBV     {c t : ByteArray} (hc : c.size ≤ 140737488355328) (ht : t.size ≤ 140737488355328) (b : Bool) (W : World) : Calls Tryz.prog 20 #[.string c, .string t, if b then .iface 63 (.int .i64 4) else .nilIface] W fun o w' => ∃ v, o = .returned v ∧ ErV w' (if b then 4 else 0) c t v ∧ Below W.heap.size W w' := by
  cases b with
  | false =>
    refine (aHT      c t W).mono ?_
    rintro o w' ⟨rfl, rfl⟩
    exact ⟨_, rfl, .inl ⟨rfl, rfl⟩, Below.refl _ _⟩
  | true =>
    refine (iO       hc ht 4 W).mono ?_
    rintro o w' ⟨v, rfl, h, b⟩
    exact ⟨v, rfl, .inr ⟨by decide, h⟩, b⟩
theorem aJi {z:Int}{s:ByteArray}(hs:s.size<=140737488355328) {po:Option Addr}{w:World}(CK:∀ W,Cb 19 #[vU 0,vI z] W (.iface 63 (vI 5))) :
 Calls Tryz.prog 11 #[.string s,vI z,.pointer po] w fun o w'=>∃ v,o=.returned (.tuple #[vU 0,v])/\ErV w' 5 aF s v/\Bl w w':=by
 have WR:=fun W=>iO (c:=aF) (t:=s) (by decide) hs 5 W
 unfold aF at *
 clear hs
 go_enter Tryz.func11,Tryz.ntmps11
 go_wp2_with fail
 refine (CK _).mono ?_
 rintro o w1 ⟨rfl,b1⟩
 have B1:Hid (Bl w w1):=b1
 clear b1
 go_wp2_with fail
 refine (WR _).mono ?_
 rintro o w2 ⟨v,rfl,h2,b2⟩
 have B2:Hid (Bl w w2):=B1.out.trans (b2.mono B1.out.size)
 have H2:Hid (Wr w2 ⟨#[80,97,114,115,101]⟩ s 5 v):=h2
 clear b2 h2
 go_wp2
 go_ret2
 exact ⟨v,rfl,.inr ⟨by decide,H2.out⟩,B2.out⟩
theorem aLq {z:Int}{s:ByteArray}(hs:s.size<=140737488355328) {po:Option Addr}{w:World}(CK:∀ W,Cb 19 #[vU 0,vI z] W .nilIface)
 (SC:∀ W,Cb 27 #[.string s] W (.tuple #[.agg #[.bool false,vI 0,.string ⟨#[]⟩,vI 0,.bool false,vU 0,vI 0,.bool false],.iface 63 (vI 3)])) :
 Calls Tryz.prog 11 #[.string s,vI z,.pointer po] w fun o w'=>∃ v,o=.returned (.tuple #[vU 0,v])/\ErV w' 3 aF s v/\Bl w w':=by
 have WR:=fun W=>iO (c:=aF) (t:=s) (by decide) hs 3 W
 unfold aF at *
 clear hs
 go_enter Tryz.func11,Tryz.ntmps11
 go_wp2_with fail
 refine (CK _).mono ?_
 rintro o w1 ⟨rfl,b1⟩
 have B1:Hid (Bl w w1):=b1
 clear b1
 go_wp2_with fail
 refine (SC _).mono ?_
 rintro o w2 ⟨rfl,b2⟩
 have B2:Hid (Bl w (w2.alloc (.cells #[.bool false,vI 0,.string ⟨#[]⟩,vI 0,.bool false,vU 0,vI 0,.bool false] 43))):=(B1.out.trans (b2.mono B1.out.size)).alloc (Nat.le_trans B1.out.size b2.size) _
 clear b2
 go_wp2_with fail
 refine (WR _).mono ?_
 rintro o w3 ⟨v,rfl,h3,b3⟩
 have B3:Hid (Bl w w3):=B2.out.trans (b3.mono B2.out.size)
 have H3:Hid (Wr w3 ⟨#[80,97,114,115,101]⟩ s 3 v):=h3
 clear b3 h3
 go_wp2
 go_ret2
 exact ⟨v,rfl,.inr ⟨by decide,H3.out⟩,B3.out⟩
theorem aJj {z:Int}{s:ByteArray}{po:Option Addr}{w:World}{X E:Value}{k:Int}{R:World -> World -> Prop}{c:Bool}{kd:Int}{d:ByteArray}{q:Int}{u:Bool}{m:Nat}{e:Int}{r:Bool}(CK:∀ W,Cb 19 #[vU 0,vI z] W .nilIface)
 (SC:∀ W,Cb 27 #[.string s] W (.tuple #[ptV c kd d q u (m:Int) e r,.nilIface]))
 (VL:∀ W,Bl w W -> Calls Tryz.prog 28 #[ptV c kd d q u (m:Int) e r,vI z,.pointer po] W fun o w'=>o=.returned (.tuple #[X,E])/\R W w')
 (WR:∀ W,Calls Tryz.prog 20 #[.string aF,.string s,E] W fun o w'=>∃ v,o=.returned v/\ErV w' k aF s v/\Bl W w') :
 Calls Tryz.prog 11 #[.string s,vI z,.pointer po] w fun o w'=>∃ v w1 w2,o=.returned (.tuple #[X,v])/\ErV w' k aF s v/\Bl w w1/\R w1 w2/\Bl w2 w':=by
 unfold aF ptV at *
 go_enter Tryz.func11,Tryz.ntmps11
 go_wp2_with fail
 refine (CK _).mono ?_
 rintro o w1 ⟨rfl,b1⟩
 have B1:Hid (Bl w w1):=b1
 clear b1
 go_wp2_with fail
 refine (SC _).mono ?_
 rintro o w2 ⟨rfl,b2⟩
 have B2:Hid (Bl w (w2.alloc (.cells #[.bool c,vI kd,.string d,vI q,.bool u,vU (m:Int),vI e,.bool r] 43))):=(B1.out.trans (b2.mono B1.out.size)).alloc (Nat.le_trans B1.out.size b2.size) _
 clear b2
 have VL':=VL _ B2.out
 go_wp2_with fail
 refine VL'.mono ?_
 rintro o w3 ⟨rfl,r3⟩
 have R3:Hid (R _ w3):=r3
 clear r3 VL VL'
 go_wp2_with fail
 refine (WR _).mono ?_
 rintro o w4 ⟨v,rfl,h4,b4⟩
 have H4:Hid (ErV w4 k ⟨#[80,97,114,115,101]⟩ s v/\Bl w3 w4):=⟨h4,b4⟩
 clear b4 h4
 go_wp2
 go_ret2
 exact ⟨v,_,w3,rfl,H4.out.1,B2.out,R3.out,H4.out.2⟩
theorem aLp {z:Int}{s:ByteArray}(hs:s.size<=140737488355328) {po:Option Addr}{w:World}(CK:∀ W,Cb 19 #[vU 0,vI z] W .nilIface)
 (SC:∀ W,Cb 45 #[.string s] W (.tuple #[.agg #[.bool false,vI 0,.string ⟨#[]⟩,vI 0,.bool false,vU 0,vI 0,.bool false],vI 0,.iface 63 (vI 3)])) :
 Calls Tryz.prog 26 #[.string s,vI z,.pointer po] w fun o w'=>∃ v,o=.returned (.tuple #[vU 0,vI 0,v])/\ErV w' 3 lR s v/\Bl w w':=by
 have WR:=fun W=>iO (c:=lR) (t:=s) (by decide) hs 3 W
 unfold lR at *
 clear hs
 go_enter Tryz.func26,Tryz.ntmps26
 go_wp2_with fail
 refine (CK _).mono ?_
 rintro o w1 ⟨rfl,b1⟩
 have B1:Hid (Bl w w1):=b1
 clear b1
 go_wp2_with fail
 refine (SC _).mono ?_
 rintro o w2 ⟨rfl,b2⟩
 have B2:Hid (Bl w (w2.alloc (.cells #[.bool false,vI 0,.string ⟨#[]⟩,vI 0,.bool false,vU 0,vI 0,.bool false] 43))):=(B1.out.trans (b2.mono B1.out.size)).alloc (Nat.le_trans B1.out.size b2.size) _
 clear b2
 go_wp2_with fail
 refine (WR _).mono ?_
 rintro o w3 ⟨v,rfl,h3,b3⟩
 have B3:Hid (Bl w w3):=B2.out.trans (b3.mono B2.out.size)
 have H3:Hid (Wr w3 ⟨#[80,114,101,102,105,120]⟩ s 3 v):=h3
 clear b3 h3
 go_wp2
 go_ret3
 exact ⟨v,rfl,.inr ⟨by decide,H3.out⟩,B3.out⟩
theorem aJh {z:Int}{s:ByteArray}{po:Option Addr}{w:World}{X E:Value}{N:Value}{k:Int}{R:World -> World -> Prop}{c:Bool}{kd:Int}{d:ByteArray}{q:Int}{u:Bool}{m:Nat}{e:Int}{r:Bool}(CK:∀ W,Cb 19 #[vU 0,vI z] W .nilIface)
 (SC:∀ W,Cb 45 #[.string s] W (.tuple #[ptV c kd d q u (m:Int) e r,N,.nilIface]))
 (VL:∀ W,Bl w W -> Calls Tryz.prog 28 #[ptV c kd d q u (m:Int) e r,vI z,.pointer po] W fun o w'=>o=.returned (.tuple #[X,E])/\R W w')
 (WR:∀ W,Calls Tryz.prog 20 #[.string lR,.string s,E] W fun o w'=>∃ v,o=.returned v/\ErV w' k lR s v/\Bl W w') :
 Calls Tryz.prog 26 #[.string s,vI z,.pointer po] w fun o w'=>∃ v w1 w2,o=.returned (.tuple #[X,N,v])/\ErV w' k lR s v/\Bl w w1/\R w1 w2/\Bl w2 w':=by
 unfold lR ptV at *
 go_enter Tryz.func26,Tryz.ntmps26
 go_wp2_with fail
 refine (CK _).mono ?_
 rintro o w1 ⟨rfl,b1⟩
 have B1:Hid (Bl w w1):=b1
 clear b1
 go_wp2_with fail
 refine (SC _).mono ?_
 rintro o w2 ⟨rfl,b2⟩
 have B2:Hid (Bl w (w2.alloc (.cells #[.bool c,vI kd,.string d,vI q,.bool u,vU (m:Int),vI e,.bool r] 43))):=(B1.out.trans (b2.mono B1.out.size)).alloc (Nat.le_trans B1.out.size b2.size) _
 clear b2
 have VL':=VL _ B2.out
 go_wp2_with fail
 refine VL'.mono ?_
 rintro o w3 ⟨rfl,r3⟩
 have R3:Hid (R _ w3):=r3
 clear r3 VL VL'
 go_wp2_with fail
 refine (WR _).mono ?_
 rintro o w4 ⟨v,rfl,h4,b4⟩
 have H4:Hid (ErV w4 k ⟨#[80,114,101,102,105,120]⟩ s v/\Bl w3 w4):=⟨h4,b4⟩
 clear b4 h4
 go_wp2
 go_ret3
 exact ⟨v,_,w3,rfl,H4.out.1,B2.out,R3.out,H4.out.2⟩
def prA (g f T:Nat) (L:Int) (l:List UInt8):Nat × Int :=
 match scn l with
 | none=>(0,3)
 | some P=>((ofP g f T L P).1,if (ofP g f T L P).2 then 4 else 0)
def pxA (g f T:Nat) (L:Int) (l:List UInt8):Nat × Nat × Int :=
 match pfx l with
 | none=>(0,0,3)
 | some (P,n)=>((ofP g f T L P).1,n,if (ofP g f T L P).2 then 4 else 0)
def Prd (mb:Option Nat) (W:World) (M K:Nat) (o:Option Pt):Prop :=
 match o with
 | none=>Mq mb 0 0 W 0 0
 | some P=>Vrd mb W P (Lgt M K P)
theorem aHb {z:Int}(h:Sn z) {l:List UInt8}(hl:l.length<=140737488351256) (po:Option Addr) (w:World) :
 Calls Tryz.prog 11 #[.string (sB l),vI z,.pointer po] w fun o w'=>∃ v,o=.returned (.tuple #[vU 0,v])/\ErV w' 5 aF (sB l) v/\Bl w w' :=
 aJi (by rw [aA];omega) fun W=>xL h 0 W
theorem aHc      {z : Int} {g n f T : Nat} {L : Int} (hz : Fz z g n f T L) {M K : Nat} (hx : Xz z f T L M K) {mb : Option Nat} {w0 W : World} (mq : Mq mb 0 0 W 0 0) (F : Frm mb w0 W) (hT : Tab w0) {l : List UInt8} (hl : l.length ≤ 140737488351256) :
    Calls Tryz.prog 11 #[.string (sB l), .int .i64 z, mqV mb] W fun o W' => ∃ v, o = .returned (.tuple #[.int .u64 (((prA g f T L l).1 : Nat) : Int), v]) ∧ ErV W' (prA g f T L l).2 aF   (sB l) v ∧ Bt mb W W' ∧ Prd mb W' M K (scn l) := by
  obtain ⟨po, hpo⟩ : ∃ po, mqV mb = .pointer po := by cases mb <;> exact ⟨_, rfl⟩
  have CK := fun W => jK      hz W
  have hs : (sB l).size ≤ 140737488355328 := by rw [aA     ]; omega
  have SC := fun W => aHy      l hl W
  unfold prA
  cases h : scn l with
  | none =>
    rw [h] at SC
    rw [hpo]
    refine (aLq    hs CK SC).mono ?_
    rintro o w' ⟨v, rfl, e, b⟩
    exact ⟨v, rfl, e, Bt.of b, mq.step b⟩
  | some P =>
    rw [h] at SC
    have VL := fun W' (b : Below W.heap.size W W') => aAH      hz hx (mq.step b) (F.below b) hT (aFl    h)
    rw [hpo] at VL ⊢
    refine (aJj     (R := fun W W' => Bt mb W W' ∧ Vrd mb W' P (Lgt M K P)) CK SC VL (fun W => aBV     (by decide) hs _ W)).mono ?_
    rintro o w' ⟨v, w1, w2, rfl, e, b1, ⟨b2, r⟩, b3⟩
    exact ⟨v, rfl, e, ((Bt.of b1).trans b2).trans (Bt.of b3), r.step b3⟩
theorem aE0       {z : Int} {g n f T : Nat} {L : Int} (hz : Fz z g n f T L) {M K : Nat} (hx : Xz z f T L M K) {W : World} (hT : Tab W) {l : List UInt8} (hl : l.length ≤ 140737488351256) :
    Calls Tryz.prog 26 #[.string (sB l), .int .i64 z, .pointer none] W fun o W' => ∃ v, o = .returned (.tuple #[.int .u64 (((pxA g f T L l).1 : Nat) : Int), .int .i64 (((pxA g f T L l).2.1 : Nat) : Int), v]) ∧ ErV W' (pxA g f T L l).2.2 lR   (sB l) v ∧ Below W.heap.size W W' := by
  have CK := fun W => jK      hz W
  have hs : (sB l).size ≤ 140737488355328 := by rw [aA     ]; omega
  have SC := fun W => oS          l hl W
  unfold pxA
  cases h : pfx l with
  | none =>
    rw [h] at SC
    exact aLp    hs CK SC
  | some x =>
    obtain ⟨P, k⟩ := x
    rw [h] at SC
    have VL := fun W' (b : Below W.heap.size W W') => aAH      hz hx (mb := none) (w0 := W) (W := W') rfl ⟨b, fun _ h => by cases h⟩ hT (aET    h)
    refine (aJh     (R := fun W W' => Bt none W W' ∧ Vrd none W' P (Lgt M K P)) CK SC VL (fun W => aBV     (by decide) hs _ W)).mono ?_
    rintro o w' ⟨v, w1, w2, rfl, e, b1, ⟨b2, _⟩, b3⟩
    exact ⟨v, rfl, e, (b1.trans (b2.none.mono b1.size)).trans (b3.mono (Nat.le_trans b1.size b2.none.size))⟩
theorem eG {z:Int}{g n f T:Nat}{L:Int}(hz:Fz z g n f T L) {W:World}(hT:Tab W) {l:List UInt8}(hl:l.length<=140737488351256) :
 Calls Tryz.prog 11 #[.string (sB l),vI z,.pointer none] W fun o W'=>∃ v,o=.returned (.tuple #[vU (((prA g f T L l).1:Nat):Int),v])/\ErV W' (prA g f T L l).2 aF (sB l) v/\Bl W W':=by
 obtain ⟨M,K,hx⟩:∃ M K,Xz z f T L M K:=by
  rcases hz with ⟨rfl,_,_,rfl,rfl,rfl⟩ | ⟨rfl,_,_,rfl,rfl,rfl⟩
  . exact ⟨_,_,.inl ⟨rfl,rfl,rfl,rfl,rfl,rfl⟩⟩
  . exact ⟨_,_,.inr ⟨rfl,rfl,rfl,rfl,rfl,rfl⟩⟩
 refine (aHc hz hx (mb:=none) (w0:=W) rfl ⟨Below.refl _ _,fun _ h=>by cases h⟩ hT hl).mono ?_
 rintro o w' ⟨v,rfl,e,b,_⟩
 exact ⟨v,rfl,e,b.none⟩
end Go.Proofs.YtejgpbhionadbaaGreatDoor
namespace Go.Proofs.YtejgpbhionadbaaGreatDoor
open Go.RowKit Go.Extern.Stop Go.Stop Go.Extern
theorem f64:Fz 64 9223372036854775808 9218868437227405312 52 2047 (-1074):=.inr ⟨rfl,rfl,rfl,rfl,rfl,rfl⟩
theorem aMD:prA 9223372036854775808 52 2047 (-1074) [48,46,49]=(4591870180066957722,0):=by decide +kernel
theorem aME:prA 9223372036854775808 52 2047 (-1074) [49,101,52,48,48]=(9218868437227405312,4):=by decide +kernel
theorem aMF:prA 9223372036854775808 52 2047 (-1074) [48,120,49,112,45,49,48,55,52]=(1,0):=by decide +kernel
theorem aMG:pxA 9223372036854775808 52 2047 (-1074) [50,46,53,107,103]=(4612811918334230528,3,0):=by decide +kernel
theorem ErV.nil {w:World}{c t:ByteArray}{v:Value}(h:ErV w 0 c t v):v=.nilIface:=by
 rcases h with h | h
 . exact h.2
 . exact absurd rfl h.1
theorem aJZ (w:World) (hT:Tab w) (hg:ErrT w):Cb 10 #[] w (.bool true):=by
 have P1:=fun W (h:Tab W)=>eG f64 h (l:=[48,46,49]) (by decide)
 have P2:=fun W (h:Tab W)=>eG f64 h (l:=[49,101,52,48,48]) (by decide)
 have P3:=fun W (h:Tab W)=>eG f64 h (l:=[48,120,49,112,45,49,48,55,52]) (by decide)
 have P4:=fun W (h:Tab W)=>aE0 f64 (.inr ⟨rfl,rfl,rfl,rfl,rfl,rfl⟩) h (l:=[50,46,53,107,103]) (by decide)
 rw [aMD] at P1
 rw [aME] at P2
 rw [aMF] at P3
 rw [aMG] at P4
 have HT:Hid (Tab w/\ErrT w):=⟨hT,hg⟩
 clear hT hg
 go_enter Tryz.func10,Tryz.ntmps10
 go_wp2_with fail
 refine (P1 _ HT.out.1).mono ?_
 rintro o w1 ⟨v1,rfl,e1,b1⟩
 obtain rfl:=e1.nil
 have B1:Hid (Bl w w1):=b1
 clear b1 e1 P1
 go_wp2_with fail
 refine (P2 _ (HT.out.1.next B1.out)).mono ?_
 rintro o w2 ⟨v2,rfl,e2,b2⟩
 have B2:Hid (Bl w w2):=B1.out.trans (b2.mono B1.out.size)
 have E2:Hid (ErV w2 4 aF (sB [49,101,52,48,48]) v2):=e2
 clear b2 e2 P2
 go_wp2_with fail
 refine (P3 _ (HT.out.1.next B2.out)).mono ?_
 rintro o w3 ⟨v3,rfl,e3,b3⟩
 obtain rfl:=e3.nil
 have B3:Hid (Bl w w3):=B2.out.trans (b3.mono B2.out.size)
 have E3:Hid (ErV w3 4 aF (sB [49,101,52,48,48]) v2):=E2.out.below b3 (Nat.le_refl _)
 clear b3 e3 P3
 go_wp2_with fail
 refine (P4 _ (HT.out.1.next B3.out)).mono ?_
 rintro o w4 ⟨v4,rfl,e4,b4⟩
 obtain rfl:=e4.nil
 have B4:Hid (Bl w w4):=B3.out.trans (b4.mono B3.out.size)
 have E4:Hid (ErV w4 4 aF (sB [49,101,52,48,48]) v2):=E3.out.below b4 (Nat.le_refl _)
 clear b4 e4 P4
 have TL:=lF E4.out (HT.out.2.below B4.out HT.out.2.pos)
 unfold aF at TL
 go_wp2_with fail
 refine TL.mono ?_
 rintro o w5 ⟨rfl,b5⟩
 have B5:Hid (Bl w w5):=B4.out.trans (b5.mono B4.out.size)
 clear b5 TL
 go_wp2
 go_ret
 exact ⟨rfl,B5.out⟩
end Go.Proofs.YtejgpbhionadbaaGreatDoor
namespace Go.Proofs.YtejgpbhionadbaaGreatDoor
open Go.RowKit
theorem aKS (z:Int):Sn z \/ ∃ g n f T L,Fz z g n f T L:=by
 by_cases h:z=32
 . exact .inr ⟨_,_,_,_,_,.inl ⟨h,rfl,rfl,rfl,rfl,rfl⟩⟩
 . by_cases h':z=64
   . exact .inr ⟨_,_,_,_,_,.inr ⟨h',rfl,rfl,rfl,rfl,rfl⟩⟩
   . exact .inl ⟨h,h'⟩
end Go.Proofs.YtejgpbhionadbaaGreatDoor
