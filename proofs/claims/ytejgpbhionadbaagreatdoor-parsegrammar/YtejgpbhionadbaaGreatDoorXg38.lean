/-
  Holds: PsC.
-/
import Derived.Test.YtejgpbhionadbaaGreatDoorShelf
import Derived.Lib.ItoaNum
import Derived.WalkSpells
import Derived.WalkLawsBesides
import Derived.Lib.Mul64
import Derived.Lib.TrailingZeros
import Derived.Deep.OwnRows
import Derived.Laws.CopyOwn
import Derived.BigQuiet
import Derived.Deep.RegionHeld3
import Derived.Deep.LoopGhost
import Derived.Deep.AppendLies
import Derived.Deep.DeepCutAuto
import Derived.Stop.Asserts
import Derived.RowKitTokens
import Derived.Lib.BufferWrite
import Derived.Lib.ConvBytes
import Derived.Test.YtejgpbhionadbaaGreatDoorRows
import Derived.Test.YtejgpbhionadbaaGreatDoorXg36
import Derived.Test.YtejgpbhionadbaaGreatDoorXg37
set_option maxRecDepth 100000
set_option maxHeartbeats 4000000
namespace Go.Proofs.YtejgpbhionadbaaGreatDoor
open Go.RowKit
theorem val_nan {z:Int}{X E:Value}{c:Bool}{d:ByteArray}{q:Int}{u:Bool}{m:Nat}{e:Int}{r:Bool}{po:Option Addr}{w:World}(N:∀ W,Cb 46 #[vI z] W (.tuple #[X,E])) :
 Cb 28 #[ptV c 4 d q u (m:Int) e r,vI z,.pointer po] w (.tuple #[X,E]):=by
 have B0:Hid (Bl w (w.alloc (.cells #[.bool c,vI 4,.string d,vI q,.bool u,vU (m:Int),vI e,.bool r] 43))):=bz _ _
 have G0:Hid (PtB (w.alloc (.cells #[.bool c,vI 4,.string d,vI q,.bool u,vU (m:Int),vI e,.bool r] 43)) w.heap.size c 4 d q u (m:Int) e r):=PtB.new w _ _ _ _ _ _ _ _ _
 unfold ptV at *
 obtain ⟨_,a0,a1,a2,a3,a4,a5,a6,a7⟩:=G0.out
 go_enter Tryz.func28,Tryz.ntmps28
 go_wp2_with fail
 refine (N _).mono ?_
 rintro o w1 ⟨rfl,b1⟩
 have B1:Hid (Bl w w1):=B0.out.trans (b1.mono B0.out.size)
 clear b1
 go_wp2
 go_ret2
 exact ⟨rfl,B1.out⟩
theorem val_inf {z:Int}{X E:Value}{c:Bool}{d:ByteArray}{q:Int}{u:Bool}{m:Nat}{e:Int}{r:Bool}{po:Option Addr}{w:World}(N:∀ W,Cb 47 #[.bool c,vI z] W (.tuple #[X,E])) :
 Cb 28 #[ptV c 3 d q u (m:Int) e r,vI z,.pointer po] w (.tuple #[X,E]):=by
 have B0:Hid (Bl w (w.alloc (.cells #[.bool c,vI 3,.string d,vI q,.bool u,vU (m:Int),vI e,.bool r] 43))):=bz _ _
 have G0:Hid (PtB (w.alloc (.cells #[.bool c,vI 3,.string d,vI q,.bool u,vU (m:Int),vI e,.bool r] 43)) w.heap.size c 3 d q u (m:Int) e r):=PtB.new w _ _ _ _ _ _ _ _ _
 unfold ptV at *
 obtain ⟨_,a0,a1,a2,a3,a4,a5,a6,a7⟩:=G0.out
 go_enter Tryz.func28,Tryz.ntmps28
 go_wp2_with fail
 refine (N _).mono ?_
 rintro o w1 ⟨rfl,b1⟩
 have B1:Hid (Bl w w1):=B0.out.trans (b1.mono B0.out.size)
 clear b1
 go_wp2
 go_ret2
 exact ⟨rfl,B1.out⟩
theorem val_hex {z:Int}{X E:Value}{c:Bool}{d:ByteArray}{q:Int}{u:Bool}{m:Nat}{e:Int}{r:Bool}{po:Option Addr}{w:World}(N:∀ W,Bl w W → Cb 48 #[ptV c 2 d q u (m:Int) e r,vI z] W (.tuple #[X,E])) :
 Cb 28 #[ptV c 2 d q u (m:Int) e r,vI z,.pointer po] w (.tuple #[X,E]):=by
 have B0:Hid (Bl w (w.alloc (.cells #[.bool c,vI 2,.string d,vI q,.bool u,vU (m:Int),vI e,.bool r] 43))):=bz _ _
 have G0:Hid (PtB (w.alloc (.cells #[.bool c,vI 2,.string d,vI q,.bool u,vU (m:Int),vI e,.bool r] 43)) w.heap.size c 2 d q u (m:Int) e r):=PtB.new w _ _ _ _ _ _ _ _ _
 unfold ptV at *
 obtain ⟨_,a0,a1,a2,a3,a4,a5,a6,a7⟩:=G0.out
 go_enter Tryz.func28,Tryz.ntmps28
 go_wp2_with fail
 refine (N _ B0.out).mono ?_
 rintro o w1 ⟨rfl,b1⟩
 have B1:Hid (Bl w w1):=B0.out.trans (b1.mono B0.out.size)
 clear b1
 go_wp2
 go_ret2
 exact ⟨rfl,B1.out⟩
theorem val_zero {z:Int}{X:Value}{c:Bool}{m:Nat}{e:Int}{r:Bool}{po:Option Addr}{w:World}(N:∀ W,Cb 49 #[.bool c,vI z] W (.tuple #[X,.nilIface])) :
 Cb 28 #[ptV c 1 ⟨#[]⟩ 0 false (m:Int) e r,vI z,.pointer po] w (.tuple #[X,.nilIface]):=by
 have B0:Hid (Bl w (w.alloc (.cells #[.bool c,vI 1,.string ⟨#[]⟩,vI 0,.bool false,vU (m:Int),vI e,.bool r] 43))):=bz _ _
 have G0:Hid (PtB (w.alloc (.cells #[.bool c,vI 1,.string ⟨#[]⟩,vI 0,.bool false,vU (m:Int),vI e,.bool r] 43)) w.heap.size c 1 ⟨#[]⟩ 0 false (m:Int) e r):=PtB.new w _ _ _ _ _ _ _ _ _
 unfold ptV at *
 obtain ⟨_,a0,a1,_⟩:=G0.out
 go_enter Tryz.func28,Tryz.ntmps28
 go_wp2_with fail
 refine (N _).mono ?_
 rintro o w1 ⟨rfl,b1⟩
 have B1:Hid (Bl w w1):=B0.out.trans (b1.mono B0.out.size)
 have G1:Hid (PtB w1 w.heap.size c 1 ⟨#[]⟩ 0 false (m:Int) e r):=G0.out.step b1
 clear b1 a0 a1
 obtain ⟨_,a0,a1,a2,a3,a4,a5,a6,a7⟩:=G1.out
 go_wp2
 go_ret2
 exact ⟨rfl,B1.out⟩
theorem val_dec {z:Int}{s x:Nat}{E:Value}{c:Bool}{d:ByteArray}(hd:0<d.size) {q:Int}{u:Bool}{m:Nat}{e:Int}{r:Bool}{po:Option Addr}{w:World}{y:Int}(or:bits .or .u64 (s:Int) (x:Int)=y)
 (N:∀ W,Cb 49 #[.bool c,vI z] W (.tuple #[vU (s:Int),.nilIface])) {R:World → World → Prop}
 (MG:∀ W,Bl w W → Calls Tryz.prog 50 #[dcV d q u,vI z,.pointer po] W fun o w'=>o=.returned (.tuple #[vU (x:Int),E])∧R W w') :
 Calls Tryz.prog 28 #[ptV c 1 d q u (m:Int) e r,vI z,.pointer po] w fun o w'=>o=.returned (.tuple #[vU y,E])∧∃ w1,Bl w w1∧R w1 w':=by
 have B0:Hid (Bl w (w.alloc (.cells #[.bool c,vI 1,.string d,vI q,.bool u,vU (m:Int),vI e,.bool r] 43))):=bz _ _
 have G0:Hid (PtB (w.alloc (.cells #[.bool c,vI 1,.string d,vI q,.bool u,vU (m:Int),vI e,.bool r] 43)) w.heap.size c 1 d q u (m:Int) e r):=PtB.new w _ _ _ _ _ _ _ _ _
 have ne:(d.toList == ([]:List UInt8))=false:=by
  rw [beq_eq_false_iff_ne]
  intro h
  rw [list_data] at h
  have e:d.size=0:=congrArg List.length h
  omega
 unfold ptV dcV at *
 obtain ⟨_,a0,a1,_⟩:=G0.out
 go_enter Tryz.func28,Tryz.ntmps28
 go_wp2_with fail
 refine (N _).mono ?_
 rintro o w1 ⟨rfl,b1⟩
 have B1:Hid (Bl w w1):=B0.out.trans (b1.mono B0.out.size)
 have G1:Hid (PtB w1 w.heap.size c 1 d q u (m:Int) e r):=G0.out.step b1
 clear b1 a0 a1
 obtain ⟨_,a0,a1,a2,a3,a4,a5,a6,a7⟩:=G1.out
 go_wp2_with fail
 refine (MG _ B1.out).mono ?_
 rintro o w2 ⟨rfl,r2⟩
 have R2:Hid (R w1 w2):=r2
 clear r2 a0 a1 a2 a3 a4 a5 a6 a7
 go_wp2
 go_ret2
 exact ⟨rfl,w1,B1.out,R2.out⟩
def Vrd (mb:Option Nat) (W:World) (P:Pt) (lt:Prop):Prop:=if P.kind=1∧P.dd ≠ [] then Rds mb W lt else Mq mb 0 0 W 0 0
def Lgt (M K:Nat) (P:Pt):Prop:=P.dc=false∧(sB P.dd).size≤19∧hdM (sB P.dd)≤M ∧ -(K:Int)≤hdE (sB P.dd) P.dp∧hdE (sB P.dd) P.dp≤K
theorem Vrd.step {mb:Option Nat}{W W':World}{P:Pt}{lt:Prop}(h:Vrd mb W P lt) (b:Bl W W'):Vrd mb W' P lt:=by
 unfold Vrd at *
 split
 · rename_i q
   rw [if_pos q] at h
   exact h.step b
 · rename_i q
   rw [if_neg q] at h
   exact h.step b
theorem or_sgd {z : Int} {g n f T : Nat} {L : Int} (hz : Fz z g n f T L) (c : Bool) {x : Nat} (hx : x < g) : bits .or .u64 ((sgd g c 0 : Nat) : Int) (x : Int) = ((sgd g c x : Nat) : Int) := by
  have co : ∀ a b : Nat, a < 18446744073709551616 → b < 18446744073709551616 → bits .or .u64 (a : Int) (b : Int) = bits .or .u64 (b : Int) (a : Int) := fun a b ha hb => by
    rw [bits_or_u64_nat a b ha hb, bits_or_u64_nat b a hb ha, Nat.or_comm]
  obtain ⟨_, _, _, _, g2⟩ := fz_nums hz
  cases c with
  | false =>
    show bits .or .u64 ((0 : Nat) : Int) (x : Int) = (x : Int)
    rw [bits_or_u64_nat 0 x (by omega) (by omega), Nat.zero_or]
  | true =>
    show bits .or .u64 ((0 + g : Nat) : Int) (x : Int) = ((x + g : Nat) : Int)
    rw [Nat.zero_add, co g x (by omega) (by omega)]
    rcases hz with ⟨_, rfl, _⟩ | ⟨_, rfl, _⟩
    · exact or_sign_32 hx
    · exact or_sign_64 hx
theorem value_ok {z:Int}{g n f T:Nat}{L:Int}(hz:Fz z g n f T L) {M K:Nat}(hx:Xz z f T L M K) {mb:Option Nat}{w0 W:World}(mq:Mq mb 0 0 W 0 0) (F:Frm mb w0 W) (hT:Tab w0) {P:Pt}(hP:POk P) :
 Calls Tryz.prog 28 #[spV P,vI z,mqV mb] W fun o W'=>o=.returned (.tuple #[vU (((ofP g f T L P).1:Nat):Int),if (ofP g f T L P).2 then .iface 63 (vI 4) else .nilIface])∧Bt mb W W'∧Vrd mb W' P (Lgt M K P):=by
 obtain ⟨po,hpo⟩:∃ po,mqV mb=.pointer po:=by cases mb <;> exact ⟨_,rfl⟩
 obtain ⟨f0,T2,hn,ng,g2⟩:=fz_nums hz
 obtain ⟨c,k,dd,q,u,m,e,r⟩:=P
 have hv:spV ⟨c,k,dd,q,u,m,e,r⟩=ptV c k (sB dd) q u (m:Int) e r:=rfl
 rw [hv]
 have rest:∀ {o:Ending} {W':World} {X:Nat} {ov:Bool},ofP g f T L ⟨c,k,dd,q,u,m,e,r⟩=(X,ov) → ¬ (k=1∧dd ≠ []) → o=.returned (.tuple #[vU ((X:Nat):Int),if ov then .iface 63 (vI 4) else .nilIface])∧Bl W W' →
  o=.returned (.tuple #[vU (((ofP g f T L ⟨c,k,dd,q,u,m,e,r⟩).1:Nat):Int),if (ofP g f T L ⟨c,k,dd,q,u,m,e,r⟩).2 then .iface 63 (vI 4) else .nilIface])∧Bt mb W W'∧Vrd mb W' ⟨c,k,dd,q,u,m,e,r⟩ (Lgt M K ⟨c,k,dd,q,u,m,e,r⟩):=by
  rintro o W' X ov he hk ⟨rfl,b⟩
  rw [he]
  refine ⟨rfl,Bt.of b,?_⟩
  unfold Vrd
  rw [if_neg hk]
  exact mq.step b
 rcases hP with ⟨rfl,hd⟩ | ⟨rfl,hm,h0,h1,hc⟩ | rfl | ⟨rfl,rfl⟩
 · rcases hd with ⟨s0,p0,c0⟩ | hd
   · have d0:dd=[]:=List.eq_nil_of_length_eq_zero s0
     change q=0 at p0
     change u=false at c0
     subst d0 p0 c0
     rw [hpo]
     refine (val_zero (fun W=>zero_z hz c W)).mono fun o w' h=>rest (X:=sgd g c 0) (ov:=false) ?_ (by simp) ⟨h.1,h.2⟩
     rfl
   · have MG:=fun W' (b:Bl W W')=>mag_ok hz hx (mq.step b) (F.below b) hT hd
     have xl:(nrX f T L (sB dd) q u).1<g:=by
      have:=(nrX_le (f:=f) (T:=T) (L:=L) (d:=sB dd) (p:=q) (c:=u) (by omega)).1
      omega
     rw [hpo] at MG ⊢
     refine (val_dec hd.pos (or_sgd hz c xl) (fun W=>zero_z hz c W) (R:=fun W W'=>Bt mb W W'∧Rds mb W' (u=false∧(sB dd).size≤19∧hdM (sB dd)≤M ∧ -(K:Int)≤hdE (sB dd) q∧hdE (sB dd) q≤K)) (fun W' b=>(MG W' b).mono fun o w' h=>⟨h.1,h.2.1,h.2.2⟩)).mono ?_
     rintro o w' ⟨rfl,w1,b1,b2,rd⟩
     refine ⟨rfl,(Bt.of b1).trans b2,?_⟩
     unfold Vrd
     rw [if_pos ⟨rfl,fun z=>absurd hd.pos (by show ¬ 0<(sB dd).size;rw [show dd=[] from z];decide)⟩]
     exact rd
 · rw [hpo]
   refine (val_hex (X:=vU ((sgd g c (rdA f T L m 1 e r).1:Nat):Int)) (E:=if (rdA f T L m 1 e r).2 then .iface 63 (vI 4) else .nilIface) (fun W' b=>?_)).mono fun o w' h=>rest (X:=sgd g c (rdA f T L m 1 e r).1) (ov:=(rdA f T L m 1 e r).2) rfl (fun z=>absurd z.1 (by decide)) h
   refine (hof_ok hz c (sB dd) q u hm e r W' (F.tab hT |>.next b)).mono ?_
   rintro o w' ⟨rfl,b'⟩
   rw [hx_sure hz hc]
   exact ⟨rfl,b'⟩
 · rw [hpo]
   exact (val_inf (X:=vU ((sgd g c (T * 2 ^ f):Nat):Int)) (E:=.nilIface) (fun W=>inf_z hz c W)).mono fun o w' h=>rest (X:=sgd g c (T * 2 ^ f)) (ov:=false) rfl (fun z=>absurd z.1 (by decide)) h
 · rw [hpo]
   refine (val_nan (X:=vU ((T * 2 ^ f+2 ^ (f - 1):Nat):Int)) (E:=.nilIface) (fun W=>?_)).mono fun o w' h=>rest (X:=T * 2 ^ f+2 ^ (f - 1)) (ov:=false) rfl (fun z=>absurd z.1 (by decide)) h
   rcases hz with ⟨rfl,_,_,rfl,rfl,_⟩ | ⟨rfl,_,_,rfl,rfl,_⟩
   · exact bnan_32 W
   · exact bnan_64 W
end Go.Proofs.YtejgpbhionadbaaGreatDoor
