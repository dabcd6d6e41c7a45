/-
  Holds: UUiF UUiH UItW.
-/
import Derived.Test.YtejgpbhionadbaaGreatDoorChecked
import Derived.WalkKit
import Derived.Deep.DeepMust
import Derived.Test.YtejgpbhionadbaaGreatDoorShelf
import Derived.Deep.RegionHeld3
import Derived.Laws.EntriesVeiled
import Derived.Test.YtejgpbhionadbaaGreatDoorRows
import Derived.WalkSpells
import Derived.WalkLawsBesides
import Derived.Lib.Mul64
import Derived.Stop.Asserts
import Derived.RowKitTokens
import Derived.Deep.LoopGhost
import Derived.Lib.BufferWrite
import Derived.Deep.OwnRows
import Derived.Test.YtejgpbhionadbaaGreatDoorXl38
set_option maxRecDepth 100000
set_option maxHeartbeats 4000000
namespace Go.Proofs.YtejgpbhionadbaaGreatDoor
open Go.RowKit
def Wr (w:World) (c t:ByteArray) (n:Int) (v:Value):Prop:=Ch w [(c,t)] n v
theorem Wr.below {w w':World}{B:Nat}{c t:ByteArray}{n:Int}{v:Value}(h:Wr w c t n v) (hb:Below B w w') (hB:w.heap.size<=B):Wr w' c t n v:=Ch.below hb hB h
theorem iO {c t:ByteArray}(hc:c.size<=140737488355328) (ht:t.size<=140737488355328) (n:Int) (w:World) :
 Calls Tryz.prog 20 #[.string c,.string t,.iface 63 (vI n)] w fun x w'=>∃ v',x=.returned v'/\Wr w' c t n v'/\Bl w w' :=
 aJ0 hc ht (ls:=[]) rfl
def ErV (w:World) (n:Int) (c t:ByteArray) (v:Value):Prop:=(n=0/\v=.nilIface) \/ (n ≠ 0/\Wr w c t n v)
theorem ErV.below {w w':World}{B:Nat}{c t:ByteArray}{n:Int}{v:Value}(h:ErV w n c t v) (hb:Below B w w') (hB:w.heap.size<=B):ErV w' n c t v:=by
 rcases h with h | h
 . exact Or.inl h
 . exact Or.inr ⟨h.1,h.2.below hb hB⟩
end Go.Proofs.YtejgpbhionadbaaGreatDoor
namespace Go.Proofs.YtejgpbhionadbaaGreatDoor
open Go.RowKit Go.Extern.Stop Go.Stop Go.Extern
theorem aLf {ls:List Lk}{n:Int}{v:Value}{w:World}(h:Ch w ls n v) (hg:ErrT w):Cb 14 #[v] w (vI n):=by
 have B0:Bl w (w.alloc (.cells #[vI 0] 63)):=bz _ _
 have A1:=aJ7 (w:=w.alloc (.cells #[vI 0] 63)) h B0 (t:=⟨w.heap.size,0,none⟩) (old:=vI 0) (hg.below B0 hg.pos) (by simp) (World.frozen?_alloc_new _ _ _ _)
 obtain ⟨T,y,rfl⟩:=h.iface
 have HB:Hid (Bl w (w.alloc (.cells #[vI 0] 63))):=B0
 clear hg h B0
 go_enter Tryz.func14,Tryz.ntmps14
 go_wp2_with fail
 refine A1.mono ?_
 rintro e w1 ⟨rfl,hc,hb⟩
 have HD:Hid (Bl w w1):=HB.out.trans hb
 clear hb
 go_wp2
 go_ret
 exact ⟨rfl,HD.out⟩
theorem aCT (c t:ByteArray) (w:World):Cb 7 #[.nilIface,.string c,.string t,vI 0] w (.bool true):=by
 go_enter Tryz.func7,Tryz.ntmps7
 go_wp2
 go_ret
 exact ⟨rfl,Below.refl _ _⟩
theorem aFA {c t:ByteArray}{n:Int}(hn:n ≠ 0) {v:Value}{w:World}(h:Wr w c t n v) (hg:ErrT w) :
 Cb 7 #[v,.string c,.string t,vI n] w (.bool true):=by
 have h':Ch w [(c,t)] n v:=h
 have B0:Bl w (w.alloc (.cells #[.pointer none] 57)):=bz _ _
 have A1:=aJ6 (w:=w.alloc (.cells #[.pointer none] 57)) h' B0 (t:=⟨w.heap.size,0,none⟩) (old:=.pointer none) (hg.below B0 hg.pos) (by simp) (World.frozen?_alloc_new _ _ _ _)
 have N1:=fun W (h:Ch W [(c,t)] n v) (hg:ErrT W)=>aLf h hg
 have I1:=fun W (h:Ch W [(c,t)] n v)=>aBW n h
 rw [show (n == n)=true from beq_self_eq_true n] at I1
 have HB:Hid (Bl w (w.alloc (.cells #[.pointer none] 57))):=B0
 have H0:Hid (Ch w [(c,t)] n v/\ErrT w):=⟨h',hg⟩
 have hn':(n == 0)=false:=beq_eq_false_iff_ne.mpr hn
 obtain ⟨T,y,rfl⟩:=h'.iface
 clear h h' hg hn B0
 go_enter Tryz.func7,Tryz.ntmps7
 go_wp2_with fail
 refine A1.mono ?_
 rintro e w1 hr
 rcases hr with ⟨a1,_,_⟩ | ⟨c',x',b,z,a1,rfl,a3,a4,a5⟩
 . cases a1
 . have a1':some (c,t)=some (c',x'):=a1
   cases a1'
   have B1:Hid (Bl w w1):=HB.out.trans a5
   have a6:w1.heap[b]?=some (.cells #[.string c,.string t,z] 61 (0,0)):=(B1.out.block b (kD a4)).trans a4
   have k0:w1.cell? ⟨b,0,none⟩=some (.string c):=by simp [World.cell?,a6]
   have k1:w1.cell? ⟨b,1,none⟩=some (.string t):=by simp [World.cell?,a6]
   have H1:Hid (Ch w1 [(c,t)] n (.iface T y)/\ErrT w1):=⟨H0.out.1.below B1.out (Nat.le_refl _),H0.out.2.below B1.out H0.out.2.pos⟩
   clear a1 a4 a5 a6
   go_wp2_with fail
   refine (N1 _ H1.out.1 H1.out.2).mono ?_
   rintro e w2 ⟨rfl,b2⟩
   have B2:Hid (Bl w w2):=B1.out.trans (b2.mono B1.out.size)
   have H2:Hid (Ch w2 [(c,t)] n (.iface T y)):=H1.out.1.below b2 (Nat.le_refl _)
   clear b2
   go_wp2_with fail
   refine (I1 _ H2.out).mono ?_
   rintro e w2 ⟨rfl,rfl⟩
   go_wp2
   go_ret
   exact ⟨rfl,B2.out⟩
theorem lF {c t:ByteArray}{n:Int}{v:Value}{w:World}(h:ErV w n c t v) (hg:ErrT w) :
 Cb 7 #[v,.string c,.string t,vI n] w (.bool true):=by
 rcases h with ⟨rfl,rfl⟩ | ⟨h1,h2⟩
 . exact aCT c t w
 . exact aFA h1 h2 hg
end Go.Proofs.YtejgpbhionadbaaGreatDoor
