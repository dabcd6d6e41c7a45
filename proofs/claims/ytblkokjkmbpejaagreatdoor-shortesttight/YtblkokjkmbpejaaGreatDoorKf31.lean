/-
  Holds: SoN.
-/
import Derived.Test.YtblkokjkmbpejaaGreatDoorRows
import Derived.Laws.Externs
import Derived.WalkKit
import Derived.WalkSpells
import Derived.WalkLawsBesides
import Derived.Lib.Mul64
import Derived.Stop.Asserts
import Derived.RowKitTokens
import Derived.Lib.Strings
import Derived.Lib.BufferWrite
import Derived.Deep.OwnRows
import Derived.Deep.RegionHeld3
import Derived.BigQuiet
import Derived.Lib.ConvBytes
import Derived.Laws.CopyOwn
import Derived.Lib.TrailingZeros
import Derived.Lib.ItoaNum
import Derived.Deep.LoopGhost
import Derived.Deep.AppendLies
import Derived.Deep.DeepCutAuto
import Derived.Test.YtblkokjkmbpejaaGreatDoorShelf
import Derived.Test.YtblkokjkmbpejaaGreatDoorKf27
set_option maxRecDepth 100000
set_option maxHeartbeats 4000000
namespace Go.Proofs.YtblkokjkmbpejaaGreatDoor
open Go.RowKit
theorem Bk.set3a {W:World}{K:Nat}{x y z:Value}(h:Bk W K [x,y,z]) (a:Value):Bk (W.setCell ⟨K,0,none⟩ a) K [a,y,z]:=by
 have c0:=h.cell 0 _ rfl
 have c1:=h.cell 1 _ rfl
 have c2:=h.cell 2 _ rfl
 refine ⟨by rw [World.size_setCell];exact h.lt,fun i v q=>?_,fun i=>by rw [World.frozen?_setCell];exact h.fz i⟩
 match i,q with
 | 0,q=>cases q;simp [World.cell?_setCell_same,c0]
 | 1,q=>cases q;simp [World.cell?_setCell_other,c1]
 | 2,q=>cases q;simp [World.cell?_setCell_other,c2]
 | n+3,q=>simp at q
theorem Bk.set3c {W:World}{K:Nat}{x y z:Value}(h:Bk W K [x,y,z]) (a:Value):Bk (W.setCell ⟨K,2,none⟩ a) K [x,y,a]:=by
 have c0:=h.cell 0 _ rfl
 have c1:=h.cell 1 _ rfl
 have c2:=h.cell 2 _ rfl
 refine ⟨by rw [World.size_setCell];exact h.lt,fun i v q=>?_,fun i=>by rw [World.frozen?_setCell];exact h.fz i⟩
 match i,q with
 | 0,q=>cases q;simp [World.cell?_setCell_other,c0]
 | 1,q=>cases q;simp [World.cell?_setCell_other,c1]
 | 2,q=>cases q;simp [World.cell?_setCell_same,c2]
 | n+3,q=>simp at q
def bW (c:Nat):ByteArray:=⟨(Lib.repeatL [48] c).toArray⟩
theorem aAH (c:Nat) (hc:c<=800) (w:World):Cb 63 #[.string ⟨#[48]⟩,vI (c:Int)] w (.string (bW c)) :=
 repeat_any ⟨#[48]⟩ c w (by omega) (by show 1 * c<=_;omega)
theorem kM (c:Nat):(bW c).size=c/\∀ i,i<c -> dgt (bW c) i=48:=by
 have e:Lib.repeatL [48] c=List.replicate c 48:=by
  have r:=Lib.repeatL_replicate 48 1 c
  rw [Nat.mul_one] at r
  exact r
 have z:(bW c).size=c:=by
  unfold bW
  rw [e]
  show (List.replicate c (48:UInt8)).toArray.size=c
  simp
 refine ⟨z,fun i hi=>?_⟩
 rw [<- eN (by omega)]
 unfold bW
 rw [e,List.getD_eq_getElem?_getD]
 simp [hi]
def bF (s:ByteArray):ByteArray:=s ++ bW (800 - s.size)
theorem fM {s:ByteArray}(h:s.size<=800):(bF s).size=800/\∀ i,dgt (bF s) i=dgt s i:=by
 obtain ⟨n1,n2⟩:=kM (800 - s.size)
 have z:(bF s).size=800:=by
  unfold bF
  rw [ByteArray.size_append,n1]
  omega
 refine ⟨z,fun i=>?_⟩
 by_cases c:i<s.size
 . rw [aA (s:=bF s) (by omega),aA c]
   unfold bF
   rw [ByteArray.getElem_append_left c]
 . rw [cG (s:=s) (by omega)]
   by_cases d:i<800
   . rw [aA (s:=bF s) (by omega)]
     unfold bF
     rw [ByteArray.getElem_append_right (by omega),<- aA (s:=bW (800 - s.size)) (by omega)]
     exact n2 _ (by omega)
   . exact cG (by omega)
theorem mH {a:Nat}{s g1:ByteArray}{p g2 n:Int}{c:Bool}{E:Value}(HU:∀ W,Cb 55 #[.agg #[.string s,vI p,.bool c],vI n] W (.tuple #[.agg #[.string g1,vI g2,.bool false],E])) (w:World) (hw:Bk w a [.string s,vI p,.bool c]) :
 Calls Tryz.prog 64 #[vI n,.pointer (some ⟨a,0,none⟩)] w fun e w'=>∃ a':Nat,e=.returned (.slice (some ⟨a',0,none⟩) 1 1)/\DRow w' a' [(g1,g2)]/\Bl w w':=by
 have F0:Hid (Bk w a [.string s,vI p,.bool c]/\Bl w w):=⟨hw,Below.refl _ _⟩
 clear hw
 go_enter Tryz.func64,Tryz.ntmps64
 have l1_0:=F0.out.1.lt
 have a1_0_0:=F0.out.1.cell 0 _ rfl
 have f1_0_0:=F0.out.1.fz 0
 have a1_0_1:=F0.out.1.cell 1 _ rfl
 have f1_0_1:=F0.out.1.fz 1
 have a1_0_2:=F0.out.1.cell 2 _ rfl
 have f1_0_2:=F0.out.1.fz 2
 go_wp2_with fail
 all_goals first | (exfalso;omega) | skip
 refine (HU _).mono ?_
 rintro o1 w1 ⟨rfl,bb⟩
 have F1:Hid (Bk w1 (a) [.string s,vI p,.bool c]/\Bl w w1):=⟨(F0.out.1).step bb,(F0.out.2).trans (bb.mono (F0.out.2).size)⟩
 clear F0
 clear bb
 clear l1_0 a1_0_0 f1_0_0 a1_0_1 f1_0_1 a1_0_2 f1_0_2
 have lt0_1:=(F1.out.1).lt
 have le1:=(F1.out.2).size
 have F2:Hid (Bk (w1.alloc (.cells #[.string g1,vI g2,.bool false] 24)) (a) [.string s,vI p,.bool c]/\Bk (w1.alloc (.cells #[.string g1,vI g2,.bool false] 24)) (w1.heap.size) [.string g1,vI g2,.bool false]/\Bl w (w1.alloc (.cells #[.string g1,vI g2,.bool false] 24))):=⟨(F1.out.1).step (bz _ _),Bk.new3 w1 (.string g1) (vI g2) (.bool false) 24,(F1.out.2).alloc ((F1.out.2).size) _⟩
 clear F1
 go_upto_region 2 with fail
 generalize (w1.alloc (.cells #[.string g1,vI g2,.bool false] 24))=w2 at *
 have l2_0:=F2.out.1.lt
 have a2_0_0:=F2.out.1.cell 0 _ rfl
 have f2_0_0:=F2.out.1.fz 0
 have a2_0_1:=F2.out.1.cell 1 _ rfl
 have f2_0_1:=F2.out.1.fz 1
 have a2_0_2:=F2.out.1.cell 2 _ rfl
 have f2_0_2:=F2.out.1.fz 2
 have l2_1:=F2.out.2.1.lt
 have a2_1_0:=F2.out.2.1.cell 0 _ rfl
 have f2_1_0:=F2.out.2.1.fz 0
 have a2_1_1:=F2.out.2.1.cell 1 _ rfl
 have f2_1_1:=F2.out.2.1.fz 1
 have a2_1_2:=F2.out.2.1.cell 2 _ rfl
 have f2_1_2:=F2.out.2.1.fz 2
 have ne2_0_1:¬ a=w1.heap.size:=by omega
 have ne2_1_0:¬ w1.heap.size=a:=by omega
 go_wp2
 go_ret
 refine ⟨w2.heap.size,rfl,DRow.new1 w2 (g1,g2) 24,(F2.out.2.2).alloc (F2.out.2.2).size _⟩
theorem aEh {s t:ByteArray}{p q:Int}(hs:VD s p false) (ht:VD t q false) {g:Nat -> Dp}{E:Nat -> Value}(hg:∀ n,1<=n -> n<=800 -> VD (g n).1 (g n).2 false) (HU:∀ n:Nat,1<=n -> n<=800 -> ∀ W,Cb 55 #[.agg #[.string s,vI p,.bool false],vI (n:Int)] W (.tuple #[.agg #[.string (g n).1,vI (g n).2,.bool false],E n])) (w:World) :
 Cb 33 #[.agg #[.string s,vI p,.bool false,.string t,vI q,.bool false,.bool true]] w (fG (aX (hdB true s p t q) (fun n=>[g n]) 1 800)):=by
 have SKS:=fun (a:Nat) (w1:World) (j:Bk w1 a [.string s,vI p,.bool false])=>lB (J:=fun W=>Bk W a [.string s,vI p,.bool false]) (capv:=.pointer (some ⟨a,0,none⟩)) (c:=true) (fun _ _ h b=>h.step b) hs ht (few:=1) (many:=800) (by omega) (Nat.le_refl _) (show 1<=2 by omega) (cand:=fun n=>[g n]) (fun _=>rfl) (fun n h1 h2 d hd=>by rw [List.mem_singleton.1 hd];exact hg n h1 h2) (fun n h1 h2 W jj=>mH (HU n h1 h2) W jj) w1 j
 rw [show 800+1 - 1=800 from rfl] at SKS
 simp only [Int.cast_ofNat_Int] at SKS
 clear HU hg hs ht
 generalize aX (hdB true s p t q) (fun n=>[g n]) 1 800=R at *
 rcases R with _ | ⟨d1,d2⟩ <;> unfold fG dcV at SKS
 . have F0:Hid (Bk ((w.alloc (.cells #[.string s,vI p,.bool false,.string t,vI q,.bool false,.bool true] 59)).alloc (.cells #[.string ⟨#[]⟩,vI 0,.bool false] 24)) (w.heap.size) [.string s,vI p,.bool false,.string t,vI q,.bool false,.bool true]/\Bk ((w.alloc (.cells #[.string s,vI p,.bool false,.string t,vI q,.bool false,.bool true] 59)).alloc (.cells #[.string ⟨#[]⟩,vI 0,.bool false] 24)) (w.heap.size+1) [.string ⟨#[]⟩,vI 0,.bool false]/\Bl w ((w.alloc (.cells #[.string s,vI p,.bool false,.string t,vI q,.bool false,.bool true] 59)).alloc (.cells #[.string ⟨#[]⟩,vI 0,.bool false] 24))):=⟨(Bk.new7 w (.string s) (vI p) (.bool false) (.string t) (vI q) (.bool false) (.bool true) 59).step (bz _ _),((by have q:=Bk.new3 (w.alloc (.cells #[.string s,vI p,.bool false,.string t,vI q,.bool false,.bool true] 59)) (.string ⟨#[]⟩) (vI 0) (.bool false) 24;simpa using q):Bk ((w.alloc (.cells #[.string s,vI p,.bool false,.string t,vI q,.bool false,.bool true] 59)).alloc (.cells #[.string ⟨#[]⟩,vI 0,.bool false] 24)) (w.heap.size+1) [.string ⟨#[]⟩,vI 0,.bool false]),(((Below.refl w.heap.size w)).alloc (Nat.le_refl _) _).alloc ((((Below.refl w.heap.size w)).alloc (Nat.le_refl _) _).size) _⟩
   go_enter Tryz.func33,Tryz.ntmps33
   go_upto_region 1 with fail
   generalize ((w.alloc (.cells #[.string s,vI p,.bool false,.string t,vI q,.bool false,.bool true] 59)).alloc (.cells #[.string ⟨#[]⟩,vI 0,.bool false] 24))=w1 at *
   have l1_0:=F0.out.1.lt
   have a1_0_0:=F0.out.1.cell 0 _ rfl
   have f1_0_0:=F0.out.1.fz 0
   have a1_0_1:=F0.out.1.cell 1 _ rfl
   have f1_0_1:=F0.out.1.fz 1
   have a1_0_2:=F0.out.1.cell 2 _ rfl
   have f1_0_2:=F0.out.1.fz 2
   have a1_0_3:=F0.out.1.cell 3 _ rfl
   have f1_0_3:=F0.out.1.fz 3
   have a1_0_4:=F0.out.1.cell 4 _ rfl
   have f1_0_4:=F0.out.1.fz 4
   have a1_0_5:=F0.out.1.cell 5 _ rfl
   have f1_0_5:=F0.out.1.fz 5
   have a1_0_6:=F0.out.1.cell 6 _ rfl
   have f1_0_6:=F0.out.1.fz 6
   have l1_1:=F0.out.2.1.lt
   have a1_1_0:=F0.out.2.1.cell 0 _ rfl
   have f1_1_0:=F0.out.2.1.fz 0
   have a1_1_1:=F0.out.2.1.cell 1 _ rfl
   have f1_1_1:=F0.out.2.1.fz 1
   have a1_1_2:=F0.out.2.1.cell 2 _ rfl
   have f1_1_2:=F0.out.2.1.fz 2
   have ne1_0_1:¬ w.heap.size=w.heap.size+1:=by omega
   have ne1_1_0:¬ w.heap.size+1=w.heap.size:=by omega
   have ix:=dU s p t q
   have lt0_2:=(F0.out.1).lt
   have lt1_2:=(F0.out.2.1).lt
   have le2:=(F0.out.2.2).size
   have F1:Hid (Bk (w1.alloc (.cells #[.string s,vI p,.bool false] 24)) (w.heap.size) [.string s,vI p,.bool false,.string t,vI q,.bool false,.bool true]/\Bk (w1.alloc (.cells #[.string s,vI p,.bool false] 24)) (w.heap.size+1) [.string ⟨#[]⟩,vI 0,.bool false]/\Bk (w1.alloc (.cells #[.string s,vI p,.bool false] 24)) (w1.heap.size) [.string s,vI p,.bool false]/\Bl w (w1.alloc (.cells #[.string s,vI p,.bool false] 24))):=⟨(F0.out.1).step (bz _ _),(F0.out.2.1).step (bz _ _),Bk.new3 w1 (.string s) (vI p) (.bool false) 24,(F0.out.2.2).alloc ((F0.out.2.2).size) _⟩
   clear F0
   go_upto_region 2 with fail
   generalize (w1.alloc (.cells #[.string s,vI p,.bool false] 24))=w2 at *
   clear l1_0 a1_0_0 f1_0_0 a1_0_1 f1_0_1 a1_0_2 f1_0_2 a1_0_3 f1_0_3 a1_0_4 f1_0_4 a1_0_5 f1_0_5 a1_0_6 f1_0_6 l1_1 a1_1_0 f1_1_0 a1_1_1 f1_1_1 a1_1_2 f1_1_2
   have l2_0:=F1.out.1.lt
   have a2_0_0:=F1.out.1.cell 0 _ rfl
   have f2_0_0:=F1.out.1.fz 0
   have a2_0_1:=F1.out.1.cell 1 _ rfl
   have f2_0_1:=F1.out.1.fz 1
   have a2_0_2:=F1.out.1.cell 2 _ rfl
   have f2_0_2:=F1.out.1.fz 2
   have a2_0_3:=F1.out.1.cell 3 _ rfl
   have f2_0_3:=F1.out.1.fz 3
   have a2_0_4:=F1.out.1.cell 4 _ rfl
   have f2_0_4:=F1.out.1.fz 4
   have a2_0_5:=F1.out.1.cell 5 _ rfl
   have f2_0_5:=F1.out.1.fz 5
   have a2_0_6:=F1.out.1.cell 6 _ rfl
   have f2_0_6:=F1.out.1.fz 6
   have l2_1:=F1.out.2.1.lt
   have a2_1_0:=F1.out.2.1.cell 0 _ rfl
   have f2_1_0:=F1.out.2.1.fz 0
   have a2_1_1:=F1.out.2.1.cell 1 _ rfl
   have f2_1_1:=F1.out.2.1.fz 1
   have a2_1_2:=F1.out.2.1.cell 2 _ rfl
   have f2_1_2:=F1.out.2.1.fz 2
   have l2_2:=F1.out.2.2.1.lt
   have a2_2_0:=F1.out.2.2.1.cell 0 _ rfl
   have f2_2_0:=F1.out.2.2.1.fz 0
   have a2_2_1:=F1.out.2.2.1.cell 1 _ rfl
   have f2_2_1:=F1.out.2.2.1.fz 1
   have a2_2_2:=F1.out.2.2.1.cell 2 _ rfl
   have f2_2_2:=F1.out.2.2.1.fz 2
   have ne2_0_1:¬ w.heap.size=w.heap.size+1:=by omega
   have ne2_0_2:¬ w.heap.size=w1.heap.size:=by omega
   have ne2_1_0:¬ w.heap.size+1=w.heap.size:=by omega
   have ne2_1_2:¬ w.heap.size+1=w1.heap.size:=by omega
   have ne2_2_0:¬ w1.heap.size=w.heap.size:=by omega
   have ne2_2_1:¬ w1.heap.size=w.heap.size+1:=by omega
   have SK1:=SKS _ _ F1.out.2.2.1
   go_wp2_with fail
   all_goals first | (exfalso;omega) | skip
   refine (SK1).mono ?_
   rintro o3 w3 ⟨rfl,bb⟩
   have F2:Hid (Bk w3 (w.heap.size) [.string s,vI p,.bool false,.string t,vI q,.bool false,.bool true]/\Bk w3 (w.heap.size+1) [.string ⟨#[]⟩,vI 0,.bool false]/\Bk w3 (w1.heap.size) [.string s,vI p,.bool false]/\Bl w w3):=⟨(F1.out.1).step bb,(F1.out.2.1).step bb,(F1.out.2.2.1).step bb,(F1.out.2.2.2).trans (bb.mono (F1.out.2.2.2).size)⟩
   clear F1
   clear bb
   clear l2_0 a2_0_0 f2_0_0 a2_0_1 f2_0_1 a2_0_2 f2_0_2 a2_0_3 f2_0_3 a2_0_4 f2_0_4 a2_0_5 f2_0_5 a2_0_6 f2_0_6 l2_1 a2_1_0 f2_1_0 a2_1_1 f2_1_1 a2_1_2 f2_1_2 l2_2 a2_2_0 f2_2_0 a2_2_1 f2_2_1 a2_2_2 f2_2_2
   have l3_0:=F2.out.1.lt
   have a3_0_0:=F2.out.1.cell 0 _ rfl
   have f3_0_0:=F2.out.1.fz 0
   have a3_0_1:=F2.out.1.cell 1 _ rfl
   have f3_0_1:=F2.out.1.fz 1
   have a3_0_2:=F2.out.1.cell 2 _ rfl
   have f3_0_2:=F2.out.1.fz 2
   have a3_0_3:=F2.out.1.cell 3 _ rfl
   have f3_0_3:=F2.out.1.fz 3
   have a3_0_4:=F2.out.1.cell 4 _ rfl
   have f3_0_4:=F2.out.1.fz 4
   have a3_0_5:=F2.out.1.cell 5 _ rfl
   have f3_0_5:=F2.out.1.fz 5
   have a3_0_6:=F2.out.1.cell 6 _ rfl
   have f3_0_6:=F2.out.1.fz 6
   have l3_1:=F2.out.2.1.lt
   have a3_1_0:=F2.out.2.1.cell 0 _ rfl
   have f3_1_0:=F2.out.2.1.fz 0
   have a3_1_1:=F2.out.2.1.cell 1 _ rfl
   have f3_1_1:=F2.out.2.1.fz 1
   have a3_1_2:=F2.out.2.1.cell 2 _ rfl
   have f3_1_2:=F2.out.2.1.fz 2
   have l3_2:=F2.out.2.2.1.lt
   have a3_2_0:=F2.out.2.2.1.cell 0 _ rfl
   have f3_2_0:=F2.out.2.2.1.fz 0
   have a3_2_1:=F2.out.2.2.1.cell 1 _ rfl
   have f3_2_1:=F2.out.2.2.1.fz 1
   have a3_2_2:=F2.out.2.2.1.cell 2 _ rfl
   have f3_2_2:=F2.out.2.2.1.fz 2
   have ne3_0_1:¬ w.heap.size=w.heap.size+1:=by omega
   have ne3_0_2:¬ w.heap.size=w1.heap.size:=by omega
   have ne3_1_0:¬ w.heap.size+1=w.heap.size:=by omega
   have ne3_1_2:¬ w.heap.size+1=w1.heap.size:=by omega
   have ne3_2_0:¬ w1.heap.size=w.heap.size:=by omega
   have ne3_2_1:¬ w1.heap.size=w.heap.size+1:=by omega
   go_wp2
   refine bodyPost_ret (v:=.tuple #[.agg #[.string ⟨#[]⟩,vI 0,.bool false],.bool false]) (by simp [results,Tryz.results33,go_sem,World.cell?_setCell_same,World.cell?_setCell_other, *]) rfl ⟨rfl,?_⟩
   repeat (first | refine Below.setCell ?_ (by first | exact Nat.le_refl _ | (dsimp only;omega)) _ | refine Below.alloc ?_ (by first | exact Nat.le_refl _ | omega | (simp;omega)) _ | refine Below.drew ?_)
   exact F2.out.2.2.2
 . have F0:Hid (Bk ((w.alloc (.cells #[.string s,vI p,.bool false,.string t,vI q,.bool false,.bool true] 59)).alloc (.cells #[.string ⟨#[]⟩,vI 0,.bool false] 24)) (w.heap.size) [.string s,vI p,.bool false,.string t,vI q,.bool false,.bool true]/\Bk ((w.alloc (.cells #[.string s,vI p,.bool false,.string t,vI q,.bool false,.bool true] 59)).alloc (.cells #[.string ⟨#[]⟩,vI 0,.bool false] 24)) (w.heap.size+1) [.string ⟨#[]⟩,vI 0,.bool false]/\Bl w ((w.alloc (.cells #[.string s,vI p,.bool false,.string t,vI q,.bool false,.bool true] 59)).alloc (.cells #[.string ⟨#[]⟩,vI 0,.bool false] 24))):=⟨(Bk.new7 w (.string s) (vI p) (.bool false) (.string t) (vI q) (.bool false) (.bool true) 59).step (bz _ _),((by have q:=Bk.new3 (w.alloc (.cells #[.string s,vI p,.bool false,.string t,vI q,.bool false,.bool true] 59)) (.string ⟨#[]⟩) (vI 0) (.bool false) 24;simpa using q):Bk ((w.alloc (.cells #[.string s,vI p,.bool false,.string t,vI q,.bool false,.bool true] 59)).alloc (.cells #[.string ⟨#[]⟩,vI 0,.bool false] 24)) (w.heap.size+1) [.string ⟨#[]⟩,vI 0,.bool false]),(((Below.refl w.heap.size w)).alloc (Nat.le_refl _) _).alloc ((((Below.refl w.heap.size w)).alloc (Nat.le_refl _) _).size) _⟩
   go_enter Tryz.func33,Tryz.ntmps33
   go_upto_region 1 with fail
   generalize ((w.alloc (.cells #[.string s,vI p,.bool false,.string t,vI q,.bool false,.bool true] 59)).alloc (.cells #[.string ⟨#[]⟩,vI 0,.bool false] 24))=w1 at *
   have l1_0:=F0.out.1.lt
   have a1_0_0:=F0.out.1.cell 0 _ rfl
   have f1_0_0:=F0.out.1.fz 0
   have a1_0_1:=F0.out.1.cell 1 _ rfl
   have f1_0_1:=F0.out.1.fz 1
   have a1_0_2:=F0.out.1.cell 2 _ rfl
   have f1_0_2:=F0.out.1.fz 2
   have a1_0_3:=F0.out.1.cell 3 _ rfl
   have f1_0_3:=F0.out.1.fz 3
   have a1_0_4:=F0.out.1.cell 4 _ rfl
   have f1_0_4:=F0.out.1.fz 4
   have a1_0_5:=F0.out.1.cell 5 _ rfl
   have f1_0_5:=F0.out.1.fz 5
   have a1_0_6:=F0.out.1.cell 6 _ rfl
   have f1_0_6:=F0.out.1.fz 6
   have l1_1:=F0.out.2.1.lt
   have a1_1_0:=F0.out.2.1.cell 0 _ rfl
   have f1_1_0:=F0.out.2.1.fz 0
   have a1_1_1:=F0.out.2.1.cell 1 _ rfl
   have f1_1_1:=F0.out.2.1.fz 1
   have a1_1_2:=F0.out.2.1.cell 2 _ rfl
   have f1_1_2:=F0.out.2.1.fz 2
   have ne1_0_1:¬ w.heap.size=w.heap.size+1:=by omega
   have ne1_1_0:¬ w.heap.size+1=w.heap.size:=by omega
   have ix:=dU s p t q
   have lt0_2:=(F0.out.1).lt
   have lt1_2:=(F0.out.2.1).lt
   have le2:=(F0.out.2.2).size
   have F1:Hid (Bk (w1.alloc (.cells #[.string s,vI p,.bool false] 24)) (w.heap.size) [.string s,vI p,.bool false,.string t,vI q,.bool false,.bool true]/\Bk (w1.alloc (.cells #[.string s,vI p,.bool false] 24)) (w.heap.size+1) [.string ⟨#[]⟩,vI 0,.bool false]/\Bk (w1.alloc (.cells #[.string s,vI p,.bool false] 24)) (w1.heap.size) [.string s,vI p,.bool false]/\Bl w (w1.alloc (.cells #[.string s,vI p,.bool false] 24))):=⟨(F0.out.1).step (bz _ _),(F0.out.2.1).step (bz _ _),Bk.new3 w1 (.string s) (vI p) (.bool false) 24,(F0.out.2.2).alloc ((F0.out.2.2).size) _⟩
   clear F0
   go_upto_region 2 with fail
   generalize (w1.alloc (.cells #[.string s,vI p,.bool false] 24))=w2 at *
   clear l1_0 a1_0_0 f1_0_0 a1_0_1 f1_0_1 a1_0_2 f1_0_2 a1_0_3 f1_0_3 a1_0_4 f1_0_4 a1_0_5 f1_0_5 a1_0_6 f1_0_6 l1_1 a1_1_0 f1_1_0 a1_1_1 f1_1_1 a1_1_2 f1_1_2
   have l2_0:=F1.out.1.lt
   have a2_0_0:=F1.out.1.cell 0 _ rfl
   have f2_0_0:=F1.out.1.fz 0
   have a2_0_1:=F1.out.1.cell 1 _ rfl
   have f2_0_1:=F1.out.1.fz 1
   have a2_0_2:=F1.out.1.cell 2 _ rfl
   have f2_0_2:=F1.out.1.fz 2
   have a2_0_3:=F1.out.1.cell 3 _ rfl
   have f2_0_3:=F1.out.1.fz 3
   have a2_0_4:=F1.out.1.cell 4 _ rfl
   have f2_0_4:=F1.out.1.fz 4
   have a2_0_5:=F1.out.1.cell 5 _ rfl
   have f2_0_5:=F1.out.1.fz 5
   have a2_0_6:=F1.out.1.cell 6 _ rfl
   have f2_0_6:=F1.out.1.fz 6
   have l2_1:=F1.out.2.1.lt
   have a2_1_0:=F1.out.2.1.cell 0 _ rfl
   have f2_1_0:=F1.out.2.1.fz 0
   have a2_1_1:=F1.out.2.1.cell 1 _ rfl
   have f2_1_1:=F1.out.2.1.fz 1
   have a2_1_2:=F1.out.2.1.cell 2 _ rfl
   have f2_1_2:=F1.out.2.1.fz 2
   have l2_2:=F1.out.2.2.1.lt
   have a2_2_0:=F1.out.2.2.1.cell 0 _ rfl
   have f2_2_0:=F1.out.2.2.1.fz 0
   have a2_2_1:=F1.out.2.2.1.cell 1 _ rfl
   have f2_2_1:=F1.out.2.2.1.fz 1
   have a2_2_2:=F1.out.2.2.1.cell 2 _ rfl
   have f2_2_2:=F1.out.2.2.1.fz 2
   have ne2_0_1:¬ w.heap.size=w.heap.size+1:=by omega
   have ne2_0_2:¬ w.heap.size=w1.heap.size:=by omega
   have ne2_1_0:¬ w.heap.size+1=w.heap.size:=by omega
   have ne2_1_2:¬ w.heap.size+1=w1.heap.size:=by omega
   have ne2_2_0:¬ w1.heap.size=w.heap.size:=by omega
   have ne2_2_1:¬ w1.heap.size=w.heap.size+1:=by omega
   have SK1:=SKS _ _ F1.out.2.2.1
   go_wp2_with fail
   all_goals first | (exfalso;omega) | skip
   refine (SK1).mono ?_
   rintro o3 w3 ⟨rfl,bb⟩
   have F2:Hid (Bk w3 (w.heap.size) [.string s,vI p,.bool false,.string t,vI q,.bool false,.bool true]/\Bk w3 (w.heap.size+1) [.string ⟨#[]⟩,vI 0,.bool false]/\Bk w3 (w1.heap.size) [.string s,vI p,.bool false]/\Bl w w3):=⟨(F1.out.1).step bb,(F1.out.2.1).step bb,(F1.out.2.2.1).step bb,(F1.out.2.2.2).trans (bb.mono (F1.out.2.2.2).size)⟩
   clear F1
   clear bb
   clear l2_0 a2_0_0 f2_0_0 a2_0_1 f2_0_1 a2_0_2 f2_0_2 a2_0_3 f2_0_3 a2_0_4 f2_0_4 a2_0_5 f2_0_5 a2_0_6 f2_0_6 l2_1 a2_1_0 f2_1_0 a2_1_1 f2_1_1 a2_1_2 f2_1_2 l2_2 a2_2_0 f2_2_0 a2_2_1 f2_2_1 a2_2_2 f2_2_2
   have l3_0:=F2.out.1.lt
   have a3_0_0:=F2.out.1.cell 0 _ rfl
   have f3_0_0:=F2.out.1.fz 0
   have a3_0_1:=F2.out.1.cell 1 _ rfl
   have f3_0_1:=F2.out.1.fz 1
   have a3_0_2:=F2.out.1.cell 2 _ rfl
   have f3_0_2:=F2.out.1.fz 2
   have a3_0_3:=F2.out.1.cell 3 _ rfl
   have f3_0_3:=F2.out.1.fz 3
   have a3_0_4:=F2.out.1.cell 4 _ rfl
   have f3_0_4:=F2.out.1.fz 4
   have a3_0_5:=F2.out.1.cell 5 _ rfl
   have f3_0_5:=F2.out.1.fz 5
   have a3_0_6:=F2.out.1.cell 6 _ rfl
   have f3_0_6:=F2.out.1.fz 6
   have l3_1:=F2.out.2.1.lt
   have a3_1_0:=F2.out.2.1.cell 0 _ rfl
   have f3_1_0:=F2.out.2.1.fz 0
   have a3_1_1:=F2.out.2.1.cell 1 _ rfl
   have f3_1_1:=F2.out.2.1.fz 1
   have a3_1_2:=F2.out.2.1.cell 2 _ rfl
   have f3_1_2:=F2.out.2.1.fz 2
   have l3_2:=F2.out.2.2.1.lt
   have a3_2_0:=F2.out.2.2.1.cell 0 _ rfl
   have f3_2_0:=F2.out.2.2.1.fz 0
   have a3_2_1:=F2.out.2.2.1.cell 1 _ rfl
   have f3_2_1:=F2.out.2.2.1.fz 1
   have a3_2_2:=F2.out.2.2.1.cell 2 _ rfl
   have f3_2_2:=F2.out.2.2.1.fz 2
   have ne3_0_1:¬ w.heap.size=w.heap.size+1:=by omega
   have ne3_0_2:¬ w.heap.size=w1.heap.size:=by omega
   have ne3_1_0:¬ w.heap.size+1=w.heap.size:=by omega
   have ne3_1_2:¬ w.heap.size+1=w1.heap.size:=by omega
   have ne3_2_0:¬ w1.heap.size=w.heap.size:=by omega
   have ne3_2_1:¬ w1.heap.size=w.heap.size+1:=by omega
   go_wp2
   refine bodyPost_ret (v:=.tuple #[.agg #[.string d1,vI d2,.bool false],.bool true]) (by simp [results,Tryz.results33,go_sem,World.cell?_setCell_same,World.cell?_setCell_other, *]) rfl ⟨rfl,?_⟩
   repeat (first | refine Below.setCell ?_ (by first | exact Nat.le_refl _ | (dsimp only;omega)) _ | refine Below.alloc ?_ (by first | exact Nat.le_refl _ | omega | (simp;omega)) _ | refine Below.drew ?_)
   exact F2.out.2.2.2
theorem aEg {s t:ByteArray}{p q:Int}(hs:VD s p false) (ht:VD t q false) {g:Nat -> Dp}{E:Nat -> Value}(hg:∀ n,1<=n -> n<=800 -> VD (g n).1 (g n).2 false) (HU:∀ n:Nat,1<=n -> n<=800 -> ∀ W,Cb 55 #[.agg #[.string (bF s),vI p,.bool true],vI (n:Int)] W (.tuple #[.agg #[.string (g n).1,vI (g n).2,.bool false],E n])) (w:World) :
 Cb 33 #[.agg #[.string s,vI p,.bool false,.string t,vI q,.bool false,.bool false]] w (fG (aX (hdB false s p t q) (fun n=>[g n]) 1 800)):=by
 have SKS:=fun (a:Nat) (w1:World) (j:Bk w1 a [.string (bF s),vI p,.bool true])=>lB (J:=fun W=>Bk W a [.string (bF s),vI p,.bool true]) (capv:=.pointer (some ⟨a,0,none⟩)) (c:=false) (fun _ _ h b=>h.step b) hs ht (few:=1) (many:=800) (by omega) (Nat.le_refl _) (show 1<=2 by omega) (cand:=fun n=>[g n]) (fun _=>rfl) (fun n h1 h2 d hd=>by rw [List.mem_singleton.1 hd];exact hg n h1 h2) (fun n h1 h2 W jj=>mH (HU n h1 h2) W jj) w1 j
 rw [show 800+1 - 1=800 from rfl] at SKS
 simp only [Int.cast_ofNat_Int] at SKS
 have sz:s.size<=800:=(aEm hs).1
 have RP:=fun W=>aAH (800 - s.size) (by omega) W
 have wz:((800 - s.size:Nat):Int)=IntKind.i64.wrap (800 - (s.size:Int)):=by
  unfold IntKind.wrap
  simp [IntKind.bits,IntKind.signed]
  omega
 rw [wz] at RP
 clear wz
 have eP:(s ++ bW (800 - s.size):ByteArray)=bF s:=rfl
 have nz:=(kM (800 - s.size)).1
 have SZ:(s.size+(bW (800 - s.size)).size:Nat)<=9223372036854775807:=by rw [nz];omega
 obtain ⟨ns,hns⟩:∃ ns,bW (800 - s.size)=ns:=⟨_,rfl⟩
 rw [hns] at RP eP SZ
 have PL:(bF s).size<=maxLen:=by rw [(fM sz).1];decide
 obtain ⟨PB,hPB⟩:∃ PB,bF s=PB:=⟨_,rfl⟩
 rw [hPB] at eP SKS PL
 have SL:¬ 9223372036854775807<s.size+ns.size:=by omega
 clear hns nz hPB
 clear HU hg hs ht
 generalize aX (hdB false s p t q) (fun n=>[g n]) 1 800=R at *
 rcases R with _ | ⟨d1,d2⟩ <;> unfold fG dcV at SKS
 . have F0:Hid (Bk ((w.alloc (.cells #[.string s,vI p,.bool false,.string t,vI q,.bool false,.bool false] 59)).alloc (.cells #[.string ⟨#[]⟩,vI 0,.bool false] 24)) (w.heap.size) [.string s,vI p,.bool false,.string t,vI q,.bool false,.bool false]/\Bk ((w.alloc (.cells #[.string s,vI p,.bool false,.string t,vI q,.bool false,.bool false] 59)).alloc (.cells #[.string ⟨#[]⟩,vI 0,.bool false] 24)) (w.heap.size+1) [.string ⟨#[]⟩,vI 0,.bool false]/\Bl w ((w.alloc (.cells #[.string s,vI p,.bool false,.string t,vI q,.bool false,.bool false] 59)).alloc (.cells #[.string ⟨#[]⟩,vI 0,.bool false] 24))):=⟨(Bk.new7 w (.string s) (vI p) (.bool false) (.string t) (vI q) (.bool false) (.bool false) 59).step (bz _ _),((by have q:=Bk.new3 (w.alloc (.cells #[.string s,vI p,.bool false,.string t,vI q,.bool false,.bool false] 59)) (.string ⟨#[]⟩) (vI 0) (.bool false) 24;simpa using q):Bk ((w.alloc (.cells #[.string s,vI p,.bool false,.string t,vI q,.bool false,.bool false] 59)).alloc (.cells #[.string ⟨#[]⟩,vI 0,.bool false] 24)) (w.heap.size+1) [.string ⟨#[]⟩,vI 0,.bool false]),(((Below.refl w.heap.size w)).alloc (Nat.le_refl _) _).alloc ((((Below.refl w.heap.size w)).alloc (Nat.le_refl _) _).size) _⟩
   go_enter Tryz.func33,Tryz.ntmps33
   go_upto_region 1 with fail
   generalize ((w.alloc (.cells #[.string s,vI p,.bool false,.string t,vI q,.bool false,.bool false] 59)).alloc (.cells #[.string ⟨#[]⟩,vI 0,.bool false] 24))=w1 at *
   have l1_0:=F0.out.1.lt
   have a1_0_0:=F0.out.1.cell 0 _ rfl
   have f1_0_0:=F0.out.1.fz 0
   have a1_0_1:=F0.out.1.cell 1 _ rfl
   have f1_0_1:=F0.out.1.fz 1
   have a1_0_2:=F0.out.1.cell 2 _ rfl
   have f1_0_2:=F0.out.1.fz 2
   have a1_0_3:=F0.out.1.cell 3 _ rfl
   have f1_0_3:=F0.out.1.fz 3
   have a1_0_4:=F0.out.1.cell 4 _ rfl
   have f1_0_4:=F0.out.1.fz 4
   have a1_0_5:=F0.out.1.cell 5 _ rfl
   have f1_0_5:=F0.out.1.fz 5
   have a1_0_6:=F0.out.1.cell 6 _ rfl
   have f1_0_6:=F0.out.1.fz 6
   have l1_1:=F0.out.2.1.lt
   have a1_1_0:=F0.out.2.1.cell 0 _ rfl
   have f1_1_0:=F0.out.2.1.fz 0
   have a1_1_1:=F0.out.2.1.cell 1 _ rfl
   have f1_1_1:=F0.out.2.1.fz 1
   have a1_1_2:=F0.out.2.1.cell 2 _ rfl
   have f1_1_2:=F0.out.2.1.fz 2
   have ne1_0_1:¬ w.heap.size=w.heap.size+1:=by omega
   have ne1_1_0:¬ w.heap.size+1=w.heap.size:=by omega
   have ix:=dU s p t q
   have lt0_2:=(F0.out.1).lt
   have lt1_2:=(F0.out.2.1).lt
   have le2:=(F0.out.2.2).size
   have F1:Hid (Bk (w1.alloc (.cells #[.string s,vI p,.bool false] 24)) (w.heap.size) [.string s,vI p,.bool false,.string t,vI q,.bool false,.bool false]/\Bk (w1.alloc (.cells #[.string s,vI p,.bool false] 24)) (w.heap.size+1) [.string ⟨#[]⟩,vI 0,.bool false]/\Bk (w1.alloc (.cells #[.string s,vI p,.bool false] 24)) (w1.heap.size) [.string s,vI p,.bool false]/\Bl w (w1.alloc (.cells #[.string s,vI p,.bool false] 24))):=⟨(F0.out.1).step (bz _ _),(F0.out.2.1).step (bz _ _),Bk.new3 w1 (.string s) (vI p) (.bool false) 24,(F0.out.2.2).alloc ((F0.out.2.2).size) _⟩
   clear F0
   go_upto_region 2 with fail
   generalize (w1.alloc (.cells #[.string s,vI p,.bool false] 24))=w2 at *
   clear l1_0 a1_0_0 f1_0_0 a1_0_1 f1_0_1 a1_0_2 f1_0_2 a1_0_3 f1_0_3 a1_0_4 f1_0_4 a1_0_5 f1_0_5 a1_0_6 f1_0_6 l1_1 a1_1_0 f1_1_0 a1_1_1 f1_1_1 a1_1_2 f1_1_2
   have l2_0:=F1.out.1.lt
   have a2_0_0:=F1.out.1.cell 0 _ rfl
   have f2_0_0:=F1.out.1.fz 0
   have a2_0_1:=F1.out.1.cell 1 _ rfl
   have f2_0_1:=F1.out.1.fz 1
   have a2_0_2:=F1.out.1.cell 2 _ rfl
   have f2_0_2:=F1.out.1.fz 2
   have a2_0_3:=F1.out.1.cell 3 _ rfl
   have f2_0_3:=F1.out.1.fz 3
   have a2_0_4:=F1.out.1.cell 4 _ rfl
   have f2_0_4:=F1.out.1.fz 4
   have a2_0_5:=F1.out.1.cell 5 _ rfl
   have f2_0_5:=F1.out.1.fz 5
   have a2_0_6:=F1.out.1.cell 6 _ rfl
   have f2_0_6:=F1.out.1.fz 6
   have l2_1:=F1.out.2.1.lt
   have a2_1_0:=F1.out.2.1.cell 0 _ rfl
   have f2_1_0:=F1.out.2.1.fz 0
   have a2_1_1:=F1.out.2.1.cell 1 _ rfl
   have f2_1_1:=F1.out.2.1.fz 1
   have a2_1_2:=F1.out.2.1.cell 2 _ rfl
   have f2_1_2:=F1.out.2.1.fz 2
   have l2_2:=F1.out.2.2.1.lt
   have a2_2_0:=F1.out.2.2.1.cell 0 _ rfl
   have f2_2_0:=F1.out.2.2.1.fz 0
   have a2_2_1:=F1.out.2.2.1.cell 1 _ rfl
   have f2_2_1:=F1.out.2.2.1.fz 1
   have a2_2_2:=F1.out.2.2.1.cell 2 _ rfl
   have f2_2_2:=F1.out.2.2.1.fz 2
   have ne2_0_1:¬ w.heap.size=w.heap.size+1:=by omega
   have ne2_0_2:¬ w.heap.size=w1.heap.size:=by omega
   have ne2_1_0:¬ w.heap.size+1=w.heap.size:=by omega
   have ne2_1_2:¬ w.heap.size+1=w1.heap.size:=by omega
   have ne2_2_0:¬ w1.heap.size=w.heap.size:=by omega
   have ne2_2_1:¬ w1.heap.size=w.heap.size+1:=by omega
   go_upto_region 3 with fail
   go_cut [] (fun wx=>Hid (Bk wx (w.heap.size) [.string s,vI p,.bool false,.string t,vI q,.bool false,.bool false]/\Bk wx (w.heap.size+1) [.string ⟨#[]⟩,vI 0,.bool false]/\Bk wx (w1.heap.size) [.string PB,vI p,.bool false]/\Bl w wx))
   case first =>
    go_region_with (first | (go_at_call 63;refine (RP _).mono ?_;rintro p1 v1 ⟨rfl,bb⟩;have G1:Hid (Bk v1 (w.heap.size) [.string s,vI p,.bool false,.string t,vI q,.bool false,.bool false]/\Bk v1 (w.heap.size+1) [.string ⟨#[]⟩,vI 0,.bool false]/\Bk v1 (w1.heap.size) [.string s,vI p,.bool false]/\Bl w v1):=⟨((F1.out.1).step (Below.refl _ _).drew).step bb,((F1.out.2.1).step (Below.refl _ _).drew).step bb,((F1.out.2.2.1).step (Below.refl _ _).drew).step bb,((F1.out.2.2.2).drew).trans (bb.mono (F1.out.2.2.2).size)⟩;clear bb;have d1_2:=(G1.out.2.2.1).lt;have d1_2_0:=(G1.out.2.2.1).cell 0 _ rfl;have e1_2_0:=(G1.out.2.2.1).fz 0;have d1_2_1:=(G1.out.2.2.1).cell 1 _ rfl;have e1_2_1:=(G1.out.2.2.1).fz 1;have d1_2_2:=(G1.out.2.2.1).cell 2 _ rfl;have e1_2_2:=(G1.out.2.2.1).fz 2))
    all_goals go_wp2
    all_goals go_meet
    all_goals exact ⟨(G1.out.1).setC (by omega) _ _,(G1.out.2.1).setC (by omega) _ _,G1.out.2.2.1.set3a _,(G1.out.2.2.2).setCell (by show w.heap.size<=w1.heap.size;omega) _⟩
   case rest =>
   have F60:Hid (Bk wc (w.heap.size) [.string s,vI p,.bool false,.string t,vI q,.bool false,.bool false]/\Bk wc (w.heap.size+1) [.string ⟨#[]⟩,vI 0,.bool false]/\Bk wc (w1.heap.size) [.string PB,vI p,.bool false]/\Bl w wc):=hcut
   clear hcut F1
   have l11_2:=F60.out.2.2.1.lt
   have a11_2_0:=F60.out.2.2.1.cell 0 _ rfl
   have f11_2_0:=F60.out.2.2.1.fz 0
   have a11_2_1:=F60.out.2.2.1.cell 1 _ rfl
   have f11_2_1:=F60.out.2.2.1.fz 1
   have a11_2_2:=F60.out.2.2.1.cell 2 _ rfl
   have f11_2_2:=F60.out.2.2.1.fz 2
   go_upto_region 5 with fail
   have F61:Hid (Bk (wc.setCell ⟨w1.heap.size,2,none⟩ (.bool true)) (w.heap.size) [.string s,vI p,.bool false,.string t,vI q,.bool false,.bool false]/\Bk (wc.setCell ⟨w1.heap.size,2,none⟩ (.bool true)) (w.heap.size+1) [.string ⟨#[]⟩,vI 0,.bool false]/\Bk (wc.setCell ⟨w1.heap.size,2,none⟩ (.bool true)) (w1.heap.size) [.string PB,vI p,.bool true]/\Bl w (wc.setCell ⟨w1.heap.size,2,none⟩ (.bool true))):=⟨(F60.out.1).setC (by omega) _ _,(F60.out.2.1).setC (by omega) _ _,F60.out.2.2.1.set3c _,(F60.out.2.2.2).setCell (by show w.heap.size<=w1.heap.size;omega) _⟩
   clear l11_2 a11_2_0 f11_2_0 a11_2_1 f11_2_1 a11_2_2 f11_2_2
   clear F60
   generalize (wc.setCell ⟨w1.heap.size,2,none⟩ (.bool true))=w61 at *
   have l12_0:=F61.out.1.lt
   have a12_0_0:=F61.out.1.cell 0 _ rfl
   have f12_0_0:=F61.out.1.fz 0
   have a12_0_1:=F61.out.1.cell 1 _ rfl
   have f12_0_1:=F61.out.1.fz 1
   have a12_0_2:=F61.out.1.cell 2 _ rfl
   have f12_0_2:=F61.out.1.fz 2
   have a12_0_3:=F61.out.1.cell 3 _ rfl
   have f12_0_3:=F61.out.1.fz 3
   have a12_0_4:=F61.out.1.cell 4 _ rfl
   have f12_0_4:=F61.out.1.fz 4
   have a12_0_5:=F61.out.1.cell 5 _ rfl
   have f12_0_5:=F61.out.1.fz 5
   have a12_0_6:=F61.out.1.cell 6 _ rfl
   have f12_0_6:=F61.out.1.fz 6
   have l12_1:=F61.out.2.1.lt
   have a12_1_0:=F61.out.2.1.cell 0 _ rfl
   have f12_1_0:=F61.out.2.1.fz 0
   have a12_1_1:=F61.out.2.1.cell 1 _ rfl
   have f12_1_1:=F61.out.2.1.fz 1
   have a12_1_2:=F61.out.2.1.cell 2 _ rfl
   have f12_1_2:=F61.out.2.1.fz 2
   have l12_2:=F61.out.2.2.1.lt
   have a12_2_0:=F61.out.2.2.1.cell 0 _ rfl
   have f12_2_0:=F61.out.2.2.1.fz 0
   have a12_2_1:=F61.out.2.2.1.cell 1 _ rfl
   have f12_2_1:=F61.out.2.2.1.fz 1
   have a12_2_2:=F61.out.2.2.1.cell 2 _ rfl
   have f12_2_2:=F61.out.2.2.1.fz 2
   have ne12_0_1:¬ w.heap.size=w.heap.size+1:=by omega
   have ne12_0_2:¬ w.heap.size=w1.heap.size:=by omega
   have ne12_1_0:¬ w.heap.size+1=w.heap.size:=by omega
   have ne12_1_2:¬ w.heap.size+1=w1.heap.size:=by omega
   have ne12_2_0:¬ w1.heap.size=w.heap.size:=by omega
   have ne12_2_1:¬ w1.heap.size=w.heap.size+1:=by omega
   have SK1:=SKS _ _ F61.out.2.2.1
   go_wp2_with fail
   all_goals first | (exfalso;omega) | skip
   refine (SK1).mono ?_
   rintro o62 w62 ⟨rfl,bb⟩
   have F62:Hid (Bk w62 (w.heap.size) [.string s,vI p,.bool false,.string t,vI q,.bool false,.bool false]/\Bk w62 (w.heap.size+1) [.string ⟨#[]⟩,vI 0,.bool false]/\Bk w62 (w1.heap.size) [.string PB,vI p,.bool true]/\Bl w w62):=⟨(F61.out.1).step bb,(F61.out.2.1).step bb,(F61.out.2.2.1).step bb,(F61.out.2.2.2).trans (bb.mono (F61.out.2.2.2).size)⟩
   clear F61
   clear bb
   clear l12_0 a12_0_0 f12_0_0 a12_0_1 f12_0_1 a12_0_2 f12_0_2 a12_0_3 f12_0_3 a12_0_4 f12_0_4 a12_0_5 f12_0_5 a12_0_6 f12_0_6 l12_1 a12_1_0 f12_1_0 a12_1_1 f12_1_1 a12_1_2 f12_1_2 l12_2 a12_2_0 f12_2_0 a12_2_1 f12_2_1 a12_2_2 f12_2_2
   have l13_0:=F62.out.1.lt
   have a13_0_0:=F62.out.1.cell 0 _ rfl
   have f13_0_0:=F62.out.1.fz 0
   have a13_0_1:=F62.out.1.cell 1 _ rfl
   have f13_0_1:=F62.out.1.fz 1
   have a13_0_2:=F62.out.1.cell 2 _ rfl
   have f13_0_2:=F62.out.1.fz 2
   have a13_0_3:=F62.out.1.cell 3 _ rfl
   have f13_0_3:=F62.out.1.fz 3
   have a13_0_4:=F62.out.1.cell 4 _ rfl
   have f13_0_4:=F62.out.1.fz 4
   have a13_0_5:=F62.out.1.cell 5 _ rfl
   have f13_0_5:=F62.out.1.fz 5
   have a13_0_6:=F62.out.1.cell 6 _ rfl
   have f13_0_6:=F62.out.1.fz 6
   have l13_1:=F62.out.2.1.lt
   have a13_1_0:=F62.out.2.1.cell 0 _ rfl
   have f13_1_0:=F62.out.2.1.fz 0
   have a13_1_1:=F62.out.2.1.cell 1 _ rfl
   have f13_1_1:=F62.out.2.1.fz 1
   have a13_1_2:=F62.out.2.1.cell 2 _ rfl
   have f13_1_2:=F62.out.2.1.fz 2
   have l13_2:=F62.out.2.2.1.lt
   have a13_2_0:=F62.out.2.2.1.cell 0 _ rfl
   have f13_2_0:=F62.out.2.2.1.fz 0
   have a13_2_1:=F62.out.2.2.1.cell 1 _ rfl
   have f13_2_1:=F62.out.2.2.1.fz 1
   have a13_2_2:=F62.out.2.2.1.cell 2 _ rfl
   have f13_2_2:=F62.out.2.2.1.fz 2
   have ne13_0_1:¬ w.heap.size=w.heap.size+1:=by omega
   have ne13_0_2:¬ w.heap.size=w1.heap.size:=by omega
   have ne13_1_0:¬ w.heap.size+1=w.heap.size:=by omega
   have ne13_1_2:¬ w.heap.size+1=w1.heap.size:=by omega
   have ne13_2_0:¬ w1.heap.size=w.heap.size:=by omega
   have ne13_2_1:¬ w1.heap.size=w.heap.size+1:=by omega
   go_wp2
   refine bodyPost_ret (v:=.tuple #[.agg #[.string ⟨#[]⟩,vI 0,.bool false],.bool false]) (by simp [results,Tryz.results33,go_sem,World.cell?_setCell_same,World.cell?_setCell_other, *]) rfl ⟨rfl,?_⟩
   repeat (first | refine Below.setCell ?_ (by first | exact Nat.le_refl _ | (dsimp only;omega)) _ | refine Below.alloc ?_ (by first | exact Nat.le_refl _ | omega | (simp;omega)) _ | refine Below.drew ?_)
   exact F62.out.2.2.2
 . have F0:Hid (Bk ((w.alloc (.cells #[.string s,vI p,.bool false,.string t,vI q,.bool false,.bool false] 59)).alloc (.cells #[.string ⟨#[]⟩,vI 0,.bool false] 24)) (w.heap.size) [.string s,vI p,.bool false,.string t,vI q,.bool false,.bool false]/\Bk ((w.alloc (.cells #[.string s,vI p,.bool false,.string t,vI q,.bool false,.bool false] 59)).alloc (.cells #[.string ⟨#[]⟩,vI 0,.bool false] 24)) (w.heap.size+1) [.string ⟨#[]⟩,vI 0,.bool false]/\Bl w ((w.alloc (.cells #[.string s,vI p,.bool false,.string t,vI q,.bool false,.bool false] 59)).alloc (.cells #[.string ⟨#[]⟩,vI 0,.bool false] 24))):=⟨(Bk.new7 w (.string s) (vI p) (.bool false) (.string t) (vI q) (.bool false) (.bool false) 59).step (bz _ _),((by have q:=Bk.new3 (w.alloc (.cells #[.string s,vI p,.bool false,.string t,vI q,.bool false,.bool false] 59)) (.string ⟨#[]⟩) (vI 0) (.bool false) 24;simpa using q):Bk ((w.alloc (.cells #[.string s,vI p,.bool false,.string t,vI q,.bool false,.bool false] 59)).alloc (.cells #[.string ⟨#[]⟩,vI 0,.bool false] 24)) (w.heap.size+1) [.string ⟨#[]⟩,vI 0,.bool false]),(((Below.refl w.heap.size w)).alloc (Nat.le_refl _) _).alloc ((((Below.refl w.heap.size w)).alloc (Nat.le_refl _) _).size) _⟩
   go_enter Tryz.func33,Tryz.ntmps33
   go_upto_region 1 with fail
   generalize ((w.alloc (.cells #[.string s,vI p,.bool false,.string t,vI q,.bool false,.bool false] 59)).alloc (.cells #[.string ⟨#[]⟩,vI 0,.bool false] 24))=w1 at *
   have l1_0:=F0.out.1.lt
   have a1_0_0:=F0.out.1.cell 0 _ rfl
   have f1_0_0:=F0.out.1.fz 0
   have a1_0_1:=F0.out.1.cell 1 _ rfl
   have f1_0_1:=F0.out.1.fz 1
   have a1_0_2:=F0.out.1.cell 2 _ rfl
   have f1_0_2:=F0.out.1.fz 2
   have a1_0_3:=F0.out.1.cell 3 _ rfl
   have f1_0_3:=F0.out.1.fz 3
   have a1_0_4:=F0.out.1.cell 4 _ rfl
   have f1_0_4:=F0.out.1.fz 4
   have a1_0_5:=F0.out.1.cell 5 _ rfl
   have f1_0_5:=F0.out.1.fz 5
   have a1_0_6:=F0.out.1.cell 6 _ rfl
   have f1_0_6:=F0.out.1.fz 6
   have l1_1:=F0.out.2.1.lt
   have a1_1_0:=F0.out.2.1.cell 0 _ rfl
   have f1_1_0:=F0.out.2.1.fz 0
   have a1_1_1:=F0.out.2.1.cell 1 _ rfl
   have f1_1_1:=F0.out.2.1.fz 1
   have a1_1_2:=F0.out.2.1.cell 2 _ rfl
   have f1_1_2:=F0.out.2.1.fz 2
   have ne1_0_1:¬ w.heap.size=w.heap.size+1:=by omega
   have ne1_1_0:¬ w.heap.size+1=w.heap.size:=by omega
   have ix:=dU s p t q
   have lt0_2:=(F0.out.1).lt
   have lt1_2:=(F0.out.2.1).lt
   have le2:=(F0.out.2.2).size
   have F1:Hid (Bk (w1.alloc (.cells #[.string s,vI p,.bool false] 24)) (w.heap.size) [.string s,vI p,.bool false,.string t,vI q,.bool false,.bool false]/\Bk (w1.alloc (.cells #[.string s,vI p,.bool false] 24)) (w.heap.size+1) [.string ⟨#[]⟩,vI 0,.bool false]/\Bk (w1.alloc (.cells #[.string s,vI p,.bool false] 24)) (w1.heap.size) [.string s,vI p,.bool false]/\Bl w (w1.alloc (.cells #[.string s,vI p,.bool false] 24))):=⟨(F0.out.1).step (bz _ _),(F0.out.2.1).step (bz _ _),Bk.new3 w1 (.string s) (vI p) (.bool false) 24,(F0.out.2.2).alloc ((F0.out.2.2).size) _⟩
   clear F0
   go_upto_region 2 with fail
   generalize (w1.alloc (.cells #[.string s,vI p,.bool false] 24))=w2 at *
   clear l1_0 a1_0_0 f1_0_0 a1_0_1 f1_0_1 a1_0_2 f1_0_2 a1_0_3 f1_0_3 a1_0_4 f1_0_4 a1_0_5 f1_0_5 a1_0_6 f1_0_6 l1_1 a1_1_0 f1_1_0 a1_1_1 f1_1_1 a1_1_2 f1_1_2
   have l2_0:=F1.out.1.lt
   have a2_0_0:=F1.out.1.cell 0 _ rfl
   have f2_0_0:=F1.out.1.fz 0
   have a2_0_1:=F1.out.1.cell 1 _ rfl
   have f2_0_1:=F1.out.1.fz 1
   have a2_0_2:=F1.out.1.cell 2 _ rfl
   have f2_0_2:=F1.out.1.fz 2
   have a2_0_3:=F1.out.1.cell 3 _ rfl
   have f2_0_3:=F1.out.1.fz 3
   have a2_0_4:=F1.out.1.cell 4 _ rfl
   have f2_0_4:=F1.out.1.fz 4
   have a2_0_5:=F1.out.1.cell 5 _ rfl
   have f2_0_5:=F1.out.1.fz 5
   have a2_0_6:=F1.out.1.cell 6 _ rfl
   have f2_0_6:=F1.out.1.fz 6
   have l2_1:=F1.out.2.1.lt
   have a2_1_0:=F1.out.2.1.cell 0 _ rfl
   have f2_1_0:=F1.out.2.1.fz 0
   have a2_1_1:=F1.out.2.1.cell 1 _ rfl
   have f2_1_1:=F1.out.2.1.fz 1
   have a2_1_2:=F1.out.2.1.cell 2 _ rfl
   have f2_1_2:=F1.out.2.1.fz 2
   have l2_2:=F1.out.2.2.1.lt
   have a2_2_0:=F1.out.2.2.1.cell 0 _ rfl
   have f2_2_0:=F1.out.2.2.1.fz 0
   have a2_2_1:=F1.out.2.2.1.cell 1 _ rfl
   have f2_2_1:=F1.out.2.2.1.fz 1
   have a2_2_2:=F1.out.2.2.1.cell 2 _ rfl
   have f2_2_2:=F1.out.2.2.1.fz 2
   have ne2_0_1:¬ w.heap.size=w.heap.size+1:=by omega
   have ne2_0_2:¬ w.heap.size=w1.heap.size:=by omega
   have ne2_1_0:¬ w.heap.size+1=w.heap.size:=by omega
   have ne2_1_2:¬ w.heap.size+1=w1.heap.size:=by omega
   have ne2_2_0:¬ w1.heap.size=w.heap.size:=by omega
   have ne2_2_1:¬ w1.heap.size=w.heap.size+1:=by omega
   go_upto_region 3 with fail
   go_cut [] (fun wx=>Hid (Bk wx (w.heap.size) [.string s,vI p,.bool false,.string t,vI q,.bool false,.bool false]/\Bk wx (w.heap.size+1) [.string ⟨#[]⟩,vI 0,.bool false]/\Bk wx (w1.heap.size) [.string PB,vI p,.bool false]/\Bl w wx))
   case first =>
    go_region_with (first | (go_at_call 63;refine (RP _).mono ?_;rintro p1 v1 ⟨rfl,bb⟩;have G1:Hid (Bk v1 (w.heap.size) [.string s,vI p,.bool false,.string t,vI q,.bool false,.bool false]/\Bk v1 (w.heap.size+1) [.string ⟨#[]⟩,vI 0,.bool false]/\Bk v1 (w1.heap.size) [.string s,vI p,.bool false]/\Bl w v1):=⟨((F1.out.1).step (Below.refl _ _).drew).step bb,((F1.out.2.1).step (Below.refl _ _).drew).step bb,((F1.out.2.2.1).step (Below.refl _ _).drew).step bb,((F1.out.2.2.2).drew).trans (bb.mono (F1.out.2.2.2).size)⟩;clear bb;have d1_2:=(G1.out.2.2.1).lt;have d1_2_0:=(G1.out.2.2.1).cell 0 _ rfl;have e1_2_0:=(G1.out.2.2.1).fz 0;have d1_2_1:=(G1.out.2.2.1).cell 1 _ rfl;have e1_2_1:=(G1.out.2.2.1).fz 1;have d1_2_2:=(G1.out.2.2.1).cell 2 _ rfl;have e1_2_2:=(G1.out.2.2.1).fz 2))
    all_goals go_wp2
    all_goals go_meet
    all_goals exact ⟨(G1.out.1).setC (by omega) _ _,(G1.out.2.1).setC (by omega) _ _,G1.out.2.2.1.set3a _,(G1.out.2.2.2).setCell (by show w.heap.size<=w1.heap.size;omega) _⟩
   case rest =>
   have F60:Hid (Bk wc (w.heap.size) [.string s,vI p,.bool false,.string t,vI q,.bool false,.bool false]/\Bk wc (w.heap.size+1) [.string ⟨#[]⟩,vI 0,.bool false]/\Bk wc (w1.heap.size) [.string PB,vI p,.bool false]/\Bl w wc):=hcut
   clear hcut F1
   have l11_2:=F60.out.2.2.1.lt
   have a11_2_0:=F60.out.2.2.1.cell 0 _ rfl
   have f11_2_0:=F60.out.2.2.1.fz 0
   have a11_2_1:=F60.out.2.2.1.cell 1 _ rfl
   have f11_2_1:=F60.out.2.2.1.fz 1
   have a11_2_2:=F60.out.2.2.1.cell 2 _ rfl
   have f11_2_2:=F60.out.2.2.1.fz 2
   go_upto_region 5 with fail
   have F61:Hid (Bk (wc.setCell ⟨w1.heap.size,2,none⟩ (.bool true)) (w.heap.size) [.string s,vI p,.bool false,.string t,vI q,.bool false,.bool false]/\Bk (wc.setCell ⟨w1.heap.size,2,none⟩ (.bool true)) (w.heap.size+1) [.string ⟨#[]⟩,vI 0,.bool false]/\Bk (wc.setCell ⟨w1.heap.size,2,none⟩ (.bool true)) (w1.heap.size) [.string PB,vI p,.bool true]/\Bl w (wc.setCell ⟨w1.heap.size,2,none⟩ (.bool true))):=⟨(F60.out.1).setC (by omega) _ _,(F60.out.2.1).setC (by omega) _ _,F60.out.2.2.1.set3c _,(F60.out.2.2.2).setCell (by show w.heap.size<=w1.heap.size;omega) _⟩
   clear l11_2 a11_2_0 f11_2_0 a11_2_1 f11_2_1 a11_2_2 f11_2_2
   clear F60
   generalize (wc.setCell ⟨w1.heap.size,2,none⟩ (.bool true))=w61 at *
   have l12_0:=F61.out.1.lt
   have a12_0_0:=F61.out.1.cell 0 _ rfl
   have f12_0_0:=F61.out.1.fz 0
   have a12_0_1:=F61.out.1.cell 1 _ rfl
   have f12_0_1:=F61.out.1.fz 1
   have a12_0_2:=F61.out.1.cell 2 _ rfl
   have f12_0_2:=F61.out.1.fz 2
   have a12_0_3:=F61.out.1.cell 3 _ rfl
   have f12_0_3:=F61.out.1.fz 3
   have a12_0_4:=F61.out.1.cell 4 _ rfl
   have f12_0_4:=F61.out.1.fz 4
   have a12_0_5:=F61.out.1.cell 5 _ rfl
   have f12_0_5:=F61.out.1.fz 5
   have a12_0_6:=F61.out.1.cell 6 _ rfl
   have f12_0_6:=F61.out.1.fz 6
   have l12_1:=F61.out.2.1.lt
   have a12_1_0:=F61.out.2.1.cell 0 _ rfl
   have f12_1_0:=F61.out.2.1.fz 0
   have a12_1_1:=F61.out.2.1.cell 1 _ rfl
   have f12_1_1:=F61.out.2.1.fz 1
   have a12_1_2:=F61.out.2.1.cell 2 _ rfl
   have f12_1_2:=F61.out.2.1.fz 2
   have l12_2:=F61.out.2.2.1.lt
   have a12_2_0:=F61.out.2.2.1.cell 0 _ rfl
   have f12_2_0:=F61.out.2.2.1.fz 0
   have a12_2_1:=F61.out.2.2.1.cell 1 _ rfl
   have f12_2_1:=F61.out.2.2.1.fz 1
   have a12_2_2:=F61.out.2.2.1.cell 2 _ rfl
   have f12_2_2:=F61.out.2.2.1.fz 2
   have ne12_0_1:¬ w.heap.size=w.heap.size+1:=by omega
   have ne12_0_2:¬ w.heap.size=w1.heap.size:=by omega
   have ne12_1_0:¬ w.heap.size+1=w.heap.size:=by omega
   have ne12_1_2:¬ w.heap.size+1=w1.heap.size:=by omega
   have ne12_2_0:¬ w1.heap.size=w.heap.size:=by omega
   have ne12_2_1:¬ w1.heap.size=w.heap.size+1:=by omega
   have SK1:=SKS _ _ F61.out.2.2.1
   go_wp2_with fail
   all_goals first | (exfalso;omega) | skip
   refine (SK1).mono ?_
   rintro o62 w62 ⟨rfl,bb⟩
   have F62:Hid (Bk w62 (w.heap.size) [.string s,vI p,.bool false,.string t,vI q,.bool false,.bool false]/\Bk w62 (w.heap.size+1) [.string ⟨#[]⟩,vI 0,.bool false]/\Bk w62 (w1.heap.size) [.string PB,vI p,.bool true]/\Bl w w62):=⟨(F61.out.1).step bb,(F61.out.2.1).step bb,(F61.out.2.2.1).step bb,(F61.out.2.2.2).trans (bb.mono (F61.out.2.2.2).size)⟩
   clear F61
   clear bb
   clear l12_0 a12_0_0 f12_0_0 a12_0_1 f12_0_1 a12_0_2 f12_0_2 a12_0_3 f12_0_3 a12_0_4 f12_0_4 a12_0_5 f12_0_5 a12_0_6 f12_0_6 l12_1 a12_1_0 f12_1_0 a12_1_1 f12_1_1 a12_1_2 f12_1_2 l12_2 a12_2_0 f12_2_0 a12_2_1 f12_2_1 a12_2_2 f12_2_2
   have l13_0:=F62.out.1.lt
   have a13_0_0:=F62.out.1.cell 0 _ rfl
   have f13_0_0:=F62.out.1.fz 0
   have a13_0_1:=F62.out.1.cell 1 _ rfl
   have f13_0_1:=F62.out.1.fz 1
   have a13_0_2:=F62.out.1.cell 2 _ rfl
   have f13_0_2:=F62.out.1.fz 2
   have a13_0_3:=F62.out.1.cell 3 _ rfl
   have f13_0_3:=F62.out.1.fz 3
   have a13_0_4:=F62.out.1.cell 4 _ rfl
   have f13_0_4:=F62.out.1.fz 4
   have a13_0_5:=F62.out.1.cell 5 _ rfl
   have f13_0_5:=F62.out.1.fz 5
   have a13_0_6:=F62.out.1.cell 6 _ rfl
   have f13_0_6:=F62.out.1.fz 6
   have l13_1:=F62.out.2.1.lt
   have a13_1_0:=F62.out.2.1.cell 0 _ rfl
   have f13_1_0:=F62.out.2.1.fz 0
   have a13_1_1:=F62.out.2.1.cell 1 _ rfl
   have f13_1_1:=F62.out.2.1.fz 1
   have a13_1_2:=F62.out.2.1.cell 2 _ rfl
   have f13_1_2:=F62.out.2.1.fz 2
   have l13_2:=F62.out.2.2.1.lt
   have a13_2_0:=F62.out.2.2.1.cell 0 _ rfl
   have f13_2_0:=F62.out.2.2.1.fz 0
   have a13_2_1:=F62.out.2.2.1.cell 1 _ rfl
   have f13_2_1:=F62.out.2.2.1.fz 1
   have a13_2_2:=F62.out.2.2.1.cell 2 _ rfl
   have f13_2_2:=F62.out.2.2.1.fz 2
   have ne13_0_1:¬ w.heap.size=w.heap.size+1:=by omega
   have ne13_0_2:¬ w.heap.size=w1.heap.size:=by omega
   have ne13_1_0:¬ w.heap.size+1=w.heap.size:=by omega
   have ne13_1_2:¬ w.heap.size+1=w1.heap.size:=by omega
   have ne13_2_0:¬ w1.heap.size=w.heap.size:=by omega
   have ne13_2_1:¬ w1.heap.size=w.heap.size+1:=by omega
   go_wp2
   refine bodyPost_ret (v:=.tuple #[.agg #[.string d1,vI d2,.bool false],.bool true]) (by simp [results,Tryz.results33,go_sem,World.cell?_setCell_same,World.cell?_setCell_other, *]) rfl ⟨rfl,?_⟩
   repeat (first | refine Below.setCell ?_ (by first | exact Nat.le_refl _ | (dsimp only;omega)) _ | refine Below.alloc ?_ (by first | exact Nat.le_refl _ | omega | (simp;omega)) _ | refine Below.drew ?_)
   exact F62.out.2.2.2
end Go.Proofs.YtblkokjkmbpejaaGreatDoor
