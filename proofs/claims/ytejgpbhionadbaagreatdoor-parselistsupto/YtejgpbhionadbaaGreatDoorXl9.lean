/-
  Holds: PsH.
-/
import Derived.Test.YtejgpbhionadbaaGreatDoorShelf
import Derived.Lib.ItoaNum
import Derived.WalkSpells
import Derived.WalkLawsBesides
import Derived.Lib.Mul64
import Derived.Lib.TrailingZeros
import Derived.Deep.OwnRows
import Derived.Laws.CopyOwn
import Derived.BigQuiet
import Derived.Deep.RegionHeld3
import Derived.Deep.LoopGhost
import Derived.Deep.AppendLies
import Derived.Deep.DeepCutAuto
import Derived.Stop.Asserts
import Derived.RowKitTokens
import Derived.Lib.BufferWrite
import Derived.Lib.ConvBytes
import Derived.Test.YtejgpbhionadbaaGreatDoorXl8
set_option maxRecDepth 100000
set_option maxHeartbeats 4000000
namespace Go.Proofs.YtejgpbhionadbaaGreatDoor
open Go.RowKit
def hdK (d:ByteArray):Nat:=min d.size 19
def hdM (d:ByteArray):Nat:=dvA d 0 (hdK d)
def hdE (d:ByteArray) (p:Int):Int:=p - (hdK d:Int)
def hdR (d:ByteArray) (c:Bool):Bool:=c || decide (hdK d<d.size)
theorem aKX {d:ByteArray}(h:DG d):hdM d<18446744073709551616:=by
 have a:=dN h 0 (hdK d)
 have b:10 ^ hdK d<=10 ^ 19:=Nat.pow_le_pow_right (by decide) (by unfold hdK;omega)
 have e:(10:Nat) ^ 19=10000000000000000000:=by decide
 unfold hdM
 omega
def hdV (m:Nat) (e:Int) (r:Bool):Value:=.agg #[vU (m:Int),vI e,.bool r]
theorem aKB {d:ByteArray}{k i:Nat}(hk:k<=d.size) (hi:i<k) (h':i<(d.extract 0 k).size):(((d.extract 0 k)[i]'h').toNat:Int)=((dgt d i:Nat):Int):=by
 rw [<- aBi hk hi,cO h']
theorem GrB.far' {W:World}{K:Nat}{a b c:Value}(h:GrB W K a b c) (p:Addr) (v:Value) (n:K ≠ p.block):GrB (W.setCell p v) K a b c:=by
 have e:(W.setCell p v).heap[K]?=W.heap[K]?:=Below.heap_setCell W p v K n
 have k:=fun o=>World.cell?_of_block (w:=W) (w':=W.setCell p v) (a:=⟨K,o,none⟩) e
 have j:=fun o=>World.frozen?_of_block (w:=W) (w':=W.setCell p v) (a:=⟨K,o,none⟩) e
 have z:K<(W.setCell p v).heap.size:=by simpa using h.lt
 exact ⟨z,(k 0).trans h.a0,(k 1).trans h.a1,(k 2).trans h.a2,(j 0).trans h.f0,(j 1).trans h.f1,(j 2).trans h.f2⟩
theorem DcB.far' {W:World}{K:Nat}{a b c:Value}(h:DcB W K a b c) (p:Addr) (v:Value) (n:K ≠ p.block):DcB (W.setCell p v) K a b c:=by
 have e:(W.setCell p v).heap[K]?=W.heap[K]?:=Below.heap_setCell W p v K n
 have k:=fun o=>World.cell?_of_block (w:=W) (w':=W.setCell p v) (a:=⟨K,o,none⟩) e
 have j:=fun o=>World.frozen?_of_block (w:=W) (w':=W.setCell p v) (a:=⟨K,o,none⟩) e
 have z:K<(W.setCell p v).heap.size:=by simpa using h.lt
 exact ⟨z,(k 0).trans h.a0,(k 1).trans h.a1,(k 2).trans h.a2,(j 0).trans h.f0,(j 1).trans h.f1,(j 2).trans h.f2⟩
theorem GrB.fill' {W:World}{K:Nat}{a b c:Value}(h:GrB W K a b c) (x y z:Value):GrB (((W.setCell ⟨K,0,none⟩ x).setCell ⟨K,1,none⟩ y).setCell ⟨K,2,none⟩ z) K x y z:=by
 obtain ⟨l,a0,a1,a2,f0,f1,f2⟩:=h
 refine ⟨by simpa using l,?_,?_,?_,(World.frozen?_setCell ..).trans ((World.frozen?_setCell ..).trans ((World.frozen?_setCell ..).trans f0)),(World.frozen?_setCell ..).trans ((World.frozen?_setCell ..).trans ((World.frozen?_setCell ..).trans f1)),(World.frozen?_setCell ..).trans ((World.frozen?_setCell ..).trans ((World.frozen?_setCell ..).trans f2))⟩
 . exact (World.cell?_setCell_other _ ⟨K,2,none⟩ ⟨K,0,none⟩ z (by intro e;cases e)).trans ((World.cell?_setCell_other _ ⟨K,1,none⟩ ⟨K,0,none⟩ y (by intro e;cases e)).trans (World.cell?_setCell_same _ _ _ a0))
 . exact (World.cell?_setCell_other _ ⟨K,2,none⟩ ⟨K,1,none⟩ z (by intro e;cases e)).trans (World.cell?_setCell_same _ _ _ ((World.cell?_setCell_other _ ⟨K,0,none⟩ ⟨K,1,none⟩ x (by intro e;cases e)).trans a1))
 . exact World.cell?_setCell_same _ _ _ ((World.cell?_setCell_other _ ⟨K,1,none⟩ ⟨K,2,none⟩ y (by intro e;cases e)).trans ((World.cell?_setCell_other _ ⟨K,0,none⟩ ⟨K,2,none⟩ x (by intro e;cases e)).trans a2))
theorem GrB.put0 {W:World}{K:Nat}{a b c:Value}(h:GrB W K a b c) (x:Value):GrB (W.setCell ⟨K,0,none⟩ x) K x b c:=by
 obtain ⟨l,a0,a1,a2,f0,f1,f2⟩:=h
 have o1:(W.setCell ⟨K,0,none⟩ x).cell? ⟨K,1,none⟩=some b:=(World.cell?_setCell_other _ ⟨K,0,none⟩ ⟨K,1,none⟩ x (by intro e;cases e)).trans a1
 have o2:(W.setCell ⟨K,0,none⟩ x).cell? ⟨K,2,none⟩=some c:=(World.cell?_setCell_other _ ⟨K,0,none⟩ ⟨K,2,none⟩ x (by intro e;cases e)).trans a2
 exact ⟨by rw [World.size_setCell];exact l,World.cell?_setCell_same _ _ _ a0,o1,o2,by rw [World.frozen?_setCell];exact f0,by rw [World.frozen?_setCell];exact f1,by rw [World.frozen?_setCell];exact f2⟩
theorem aCh {d:ByteArray}{p:Int}{c:Bool}{k:Nat}(h:VN d p c) (hk:Hid (k=hdK d)) (w:World):Cb 76 #[dcV d p c] w (hdV (dvA d 0 k) (p - (k:Int)) (c || decide (k<d.size))):=by
 have hs:d.size<=800:=h.len
 have HV:Hid (VN d p c):=h
 have hp:wrap64 (p - (k:Int))=p - (k:Int):=by
  have a:=h.lo
  have b:=h.hi
  have:=hk.out
  unfold hdK at this
  unfold wrap64
  omega
 clear h
 have hm:min (d.size:Int) 19=(k:Int):=by have:=hk.out;unfold hdK at this;omega
 have i0:(0:Int)<=(k:Int):=by omega
 have i1:(k:Int)<=(d.size:Int):=by have:=hk.out;unfold hdK at this;omega
 have hmn:min k d.size=k:=by omega
 have ts:(d.extract 0 k).size=k:=by rw [ByteArray.size_extract];omega
 have k19:k<=19:=by have:=hk.out;unfold hdK at this;omega
 unfold dcV hdV
 go_enter Tryz.func76,Tryz.ntmps76
 go_wp2
 generalize ht:d.extract 0 k=t at *
 have HT:Hid (∀ j (h:j<t.size),((t[j]'h).toNat:Int)=((dgt d j:Nat):Int)):=by
  intro j h
  subst ht
  exact aKB (by omega) (by omega) h
 clear ht hm hmn
 go_loopw [21] (fun iv wr=>∃ j:Nat,iv=vI (j:Int)/\j<=k/\DcB wr w.heap.size (.string d) (vI p) (.bool c)/\GrB wr (w.heap.size+1) (vU 0) (vI 0) (.bool false)/\GrB wr (w.heap.size+1+1) (vU ((dvA d 0 j:Nat):Int)) (vI (p - (k:Int))) (.bool false)/\Bl w wr) (fun iv _=>k - (intOf iv).toNat)
 case atStart =>
  refine ⟨0,rfl,Nat.zero_le _,(DcB.new w _ _ _ _).step ((bz _ _).alloc (by simp) _),?_,?_,((bz _ _).alloc (by simp) _).alloc (by simp;omega) _⟩
  . have:=(GrB.new (w.alloc (.cells #[.string d,vI p,.bool c] 41)) (vU 0) (vI 0) (.bool false) 146).step ((Below.refl _ _).alloc (Nat.le_refl _) (.cells #[vU 0,vI (p - (k:Int)),.bool false] 146))
    rw [World.size_alloc] at this
    exact this
  . have:=GrB.new ((w.alloc (.cells #[.string d,vI p,.bool c] 41)).alloc (.cells #[vU 0,vI 0,.bool false] 146)) (vU 0) (vI (p - (k:Int))) (.bool false) 146
    rw [World.size_alloc,World.size_alloc] at this
    exact this
 case round =>
  obtain ⟨j,rfl,hj,dd,rr,gg,bb⟩:=hrel
  have HB:Hid (DcB wr w.heap.size (.string d) (vI p) (.bool c)/\GrB wr (w.heap.size+1) (vU 0) (vI 0) (.bool false)/\GrB wr (w.heap.size+1+1) (vU ((dvA d 0 j:Nat):Int)) (vI (p - (k:Int))) (.bool false)/\Bl w wr):=⟨dd,rr,gg,bb⟩
  by_cases c1:j<k
  . have j1:(j:Int)<(k:Int):=by omega
    have j0:(0:Int)<=(j:Int):=by omega
    have jt:j<t.size:=by omega
    have j2:(j:Int)<(t.size:Int):=by omega
    have hx:=HT.out j jt
    obtain ⟨q1,q2⟩:=gZ HV.out.dg j
    have lim:dvA d 0 j * 10+9<18446744073709551616:=by
     have a:=dN HV.out.dg 0 j
     have b:10 ^ j<=10 ^ 18:=Nat.pow_le_pow_right (by decide) (by omega)
     have e18:(10:Nat) ^ 18=1000000000000000000:=by decide
     omega
    have sc:=bH d 0 j
    rw [Nat.zero_add] at sc
    obtain ⟨_,c0,_,_,f0,_,_⟩:=gg
    clear dd rr bb
    generalize dvA d 0 j=m at *
    generalize dgt d j=y at *
    have mx:(((((t[j]'jt).toNat:Int) - 48) % 256):Int)=((y - 48:Nat):Int):=by omega
    go_wp2
    go_region
    go_wp2
    go_round
    case rel =>
     have e:(m:Int) * 10+((y:Int) - 48)=((dvA d 0 (j+1):Nat):Int):=by rw [sc];omega
     rw [e]
     have far:w.heap.size ≠ w.heap.size+1+1/\w.heap.size+1 ≠ w.heap.size+1+1:=by omega
     exact ⟨j+1,by go_num,by omega,(HB.out.1.far' ⟨w.heap.size+1+1,0,none⟩ _ far.1).step (Below.refl _ _).drew,(HB.out.2.1.far' ⟨w.heap.size+1+1,0,none⟩ _ far.2).step (Below.refl _ _).drew,(HB.out.2.2.1.put0 _).step (Below.refl _ _).drew,(HB.out.2.2.2.setCell (p:=⟨w.heap.size+1+1,0,none⟩) (show w.heap.size<=w.heap.size+1+1 by omega) _).drew⟩
    case measure=>simp [intOf];omega
  . obtain rfl:j=k:=by omega
    have j1:¬ (j:Int)<(j:Int):=by omega
    obtain ⟨_,a0,a1,a2,_,_,_⟩:=HB.out.1
    obtain ⟨_,_,_,_,r0,r1,r2⟩:=HB.out.2.1
    obtain ⟨_,g0,g1,g2,h0,h1,h2⟩:=HB.out.2.2.1
    clear dd rr gg bb
    generalize hmm:dvA d 0 j=m at *
    have fin:∀ v,GrB ((((wr.setCell ⟨w.heap.size+1+1,2,none⟩ (.bool v)).setCell ⟨w.heap.size+1,0,none⟩ (vU (m:Int))).setCell ⟨w.heap.size+1,1,none⟩ (vI (p - (j:Int)))).setCell ⟨w.heap.size+1,2,none⟩ (.bool v)) (w.heap.size+1) (vU (m:Int)) (vI (p - (j:Int))) (.bool v)/\Bl w ((((wr.setCell ⟨w.heap.size+1+1,2,none⟩ (.bool v)).setCell ⟨w.heap.size+1,0,none⟩ (vU (m:Int))).setCell ⟨w.heap.size+1,1,none⟩ (vI (p - (j:Int)))).setCell ⟨w.heap.size+1,2,none⟩ (.bool v)):=fun v=>by
     have l1:w.heap.size<=w.heap.size+1:=by omega
     refine ⟨(HB.out.2.1.far' ⟨w.heap.size+1+1,2,none⟩ (.bool v) (show w.heap.size+1 ≠ w.heap.size+1+1 by omega)).fill' _ _ _,?_⟩
     exact (((HB.out.2.2.2.setCell (p:=⟨w.heap.size+1+1,2,none⟩) (show w.heap.size<=w.heap.size+1+1 by omega) _).setCell (p:=⟨w.heap.size+1,0,none⟩) l1 _).setCell (p:=⟨w.heap.size+1,1,none⟩) l1 _).setCell (p:=⟨w.heap.size+1,2,none⟩) l1 _
    have FN:Hid (∀ v,GrB ((((wr.setCell ⟨w.heap.size+1+1,2,none⟩ (.bool v)).setCell ⟨w.heap.size+1,0,none⟩ (vU (m:Int))).setCell ⟨w.heap.size+1,1,none⟩ (vI (p - (j:Int)))).setCell ⟨w.heap.size+1,2,none⟩ (.bool v)) (w.heap.size+1) (vU (m:Int)) (vI (p - (j:Int))) (.bool v)/\Bl w ((((wr.setCell ⟨w.heap.size+1+1,2,none⟩ (.bool v)).setCell ⟨w.heap.size+1,0,none⟩ (vU (m:Int))).setCell ⟨w.heap.size+1,1,none⟩ (vI (p - (j:Int)))).setCell ⟨w.heap.size+1,2,none⟩ (.bool v))):=fin
    clear fin
    go_wp2
    all_goals try rw [hmm]
    . obtain ⟨⟨_,x0,x1,x2,_,_,_⟩,fb⟩:=FN.out true
      exact bodyPost_ret (v:=.agg #[vU (m:Int),vI (p - (j:Int)),.bool true]) (by simp [results,Tryz.results76,go_sem,x0,x1,x2]) rfl ⟨rfl,fb⟩
    . obtain ⟨⟨_,x0,x1,x2,_,_,_⟩,fb⟩:=FN.out (decide (j<d.size))
      exact bodyPost_ret (v:=.agg #[vU (m:Int),vI (p - (j:Int)),.bool (decide (j<d.size))]) (by simp [results,Tryz.results76,go_sem,x0,x1,x2]) rfl ⟨rfl,fb⟩
theorem aEa {d:ByteArray}{p:Int}{c:Bool}(h:VN d p c) (w:World):Cb 76 #[dcV d p c] w (hdV (hdM d) (hdE d p) (hdR d c)):=aCh h (show Hid _ from rfl) w
theorem yG (m:Nat) (e:Int) (r:Bool) (w:World):Cb 77 #[hdV m e r] w (vI (if r then 2 else 1)):=by
 unfold hdV
 cases r
 . go_enter Tryz.func77,Tryz.ntmps77
   go_wp2
   go_ret
   exact ⟨rfl,bz _ _⟩
 . go_enter Tryz.func77,Tryz.ntmps77
   go_wp2
   go_ret
   exact ⟨rfl,bz _ _⟩
end Go.Proofs.YtejgpbhionadbaaGreatDoor
