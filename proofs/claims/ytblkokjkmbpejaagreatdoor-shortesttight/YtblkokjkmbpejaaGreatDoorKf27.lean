/-
  Holds: SoD IvB IvC IvG IvJ SoE SoF SoFa SoFn SoG IvL SoK SoFb SoI SoO.
-/
import Derived.Test.YtblkokjkmbpejaaGreatDoorRows
import Derived.Laws.Externs
import Derived.WalkKit
import Derived.WalkSpells
import Derived.WalkLawsBesides
import Derived.Lib.Mul64
import Derived.Stop.Asserts
import Derived.RowKitTokens
import Derived.Lib.Strings
import Derived.Lib.BufferWrite
import Derived.Deep.OwnRows
import Derived.Deep.RegionHeld3
import Derived.BigQuiet
import Derived.Lib.ConvBytes
import Derived.Laws.CopyOwn
import Derived.Lib.TrailingZeros
import Derived.Lib.ItoaNum
import Derived.Deep.LoopGhost
import Derived.Deep.AppendLies
import Derived.Deep.DeepCutAuto
import Derived.Test.YtblkokjkmbpejaaGreatDoorKf12
import Derived.Test.YtblkokjkmbpejaaGreatDoorKf22
import Derived.Test.YtblkokjkmbpejaaGreatDoorKf24
import Derived.Test.YtblkokjkmbpejaaGreatDoorKf25
import Derived.Test.YtblkokjkmbpejaaGreatDoorKf26
set_option maxRecDepth 100000
set_option maxHeartbeats 4000000
namespace Go.Proofs.YtblkokjkmbpejaaGreatDoor
open Go.RowKit
def aY (c:Bool) (lo hi X:Nat):Bool:=inB c (aG (X:Int) (lo:Int)) (aG (X:Int) (hi:Int))
theorem pI {a b:Nat}:0<=aG (a:Int) (b:Int) ↔ b<=a:=by
 unfold aG
 split <;> (try split) <;> omega
theorem zD {a b:Nat}:0<aG (a:Int) (b:Int) ↔ b<a:=by
 unfold aG
 split <;> (try split) <;> omega
theorem pJ {a b:Nat}:aG (a:Int) (b:Int)<=0 ↔ a<=b:=by
 unfold aG
 split <;> (try split) <;> omega
theorem cM {c:Bool}{lo hi X:Nat}:aY c lo hi X=true ↔ (c=true/\lo<=X/\X<=hi) \/ (c=false/\lo<X/\X<hi):=by
 unfold aY inB
 cases c
 . rw [if_neg (by decide),Bool.and_eq_true,decide_eq_true_eq,decide_eq_true_eq,zD,dH]
   exact ⟨fun h=>Or.inr ⟨rfl,h⟩,fun h=>by rcases h with ⟨a,_⟩ | ⟨_,h⟩;cases a;exact h⟩
 . rw [if_pos rfl,Bool.and_eq_true,decide_eq_true_eq,decide_eq_true_eq,pI,pJ]
   exact ⟨fun h=>Or.inl ⟨rfl,h⟩,fun h=>by rcases h with ⟨_,h⟩ | ⟨a,_⟩;exact h;cases a⟩
def dnU (X S:Nat):Nat:=X / S * S
def upU (X S:Nat):Nat:=(X+(S - 1)) / S * S
def rnB (X S:Nat):Bool:=decide (S<2 * (X % S) \/ (2 * (X % S)=S/\X / S % 2=1))
def rnU (X S:Nat):Nat:=if rnB X S then upU X S else dnU X S
theorem sY (X S:Nat):dnU X S<=X:=by unfold dnU;rw [Nat.mul_comm];exact Nat.mul_div_le X S
theorem fI {X S:Nat}:dnU X S+X % S=X:=by unfold dnU;rw [Nat.mul_comm];exact Nat.div_add_mod X S
theorem jE {X S:Nat}(S0:0<S) (h:X % S=0):upU X S=X/\dnU X S=X:=⟨(eO S0 h).2,(eO S0 h).1⟩
theorem jD {X S:Nat}(S0:0<S) (h:0<X % S):upU X S=dnU X S+S:=by
 unfold upU dnU
 rw [sA S0 h,Nat.add_mul,Nat.one_mul]
theorem gP {X S:Nat}(S0:0<S):X<=upU X S:=by
 rcases Nat.eq_zero_or_pos (X % S) with z | z
 . rw [(jE S0 z).1];exact Nat.le_refl _
 . rw [jD S0 z]
   have:=@fI X S
   have:=Nat.mod_lt X S0
   omega
theorem aBF {X S Z:Nat}(S0:0<S) (h:Z % S=0) (hZ:Z<=X):Z<=dnU X S:=by
 obtain ⟨k,rfl⟩:∃ k,Z=S * k:=⟨Z / S,by have:=Nat.div_add_mod Z S;omega⟩
 unfold dnU
 rw [Nat.mul_comm S k]
 exact Nat.mul_le_mul_right S ((Nat.le_div_iff_mul_le S0).2 (by rw [Nat.mul_comm];exact hZ))
theorem aBG {X S Z:Nat}(S0:0<S) (h:Z % S=0) (hZ:X<=Z):upU X S<=Z:=by
 obtain ⟨k,rfl⟩:∃ k,Z=S * k:=⟨Z / S,by have:=Nat.div_add_mod Z S;omega⟩
 rcases Nat.eq_zero_or_pos (X % S) with z | z
 . rw [(jE S0 z).1];exact hZ
 . rw [jD S0 z]
   have a:=@fI X S
   have b:X / S<k:=by
    rw [Nat.div_lt_iff_lt_mul S0]
    rcases Nat.eq_or_lt_of_le hZ with e | e
    . rw [e,Nat.mul_mod_right] at z;omega
    . rw [Nat.mul_comm];exact e
   have:dnU X S+S=(X / S+1) * S:=by unfold dnU;rw [Nat.add_mul,Nat.one_mul]
   rw [this,Nat.mul_comm S k]
   exact Nat.mul_le_mul_right S b
theorem aBr (X S:Nat):dnU X S % S=0:=Nat.mul_mod_left _ _
theorem aCu (X S:Nat):upU X S % S=0:=Nat.mul_mod_left _ _
structure Rm (lo X hi:Nat):Prop where
 below:lo<X
 above:X<hi
 wide:2 * X<=lo+hi
theorem aC0 {c:Bool}{lo X hi Y Z:Nat}(h:Rm lo X hi) (hz:aY c lo hi Z=true) (h1:Z<=Y) (h2:Y<=X):aY c lo hi Y=true:=by
 have:=h.below
 have:=h.above
 rw [cM] at hz ⊢
 rcases hz with ⟨rfl,_⟩ | ⟨rfl,_⟩
 . exact Or.inl ⟨rfl,by omega,by omega⟩
 . exact Or.inr ⟨rfl,by omega,by omega⟩
theorem aC1 {c:Bool}{lo X hi Y Z:Nat}(h:Rm lo X hi) (hz:aY c lo hi Z=true) (h1:X<=Y) (h2:Y<=Z):aY c lo hi Y=true:=by
 have:=h.below
 have:=h.above
 rw [cM] at hz ⊢
 rcases hz with ⟨rfl,_⟩ | ⟨rfl,_⟩
 . exact Or.inl ⟨rfl,by omega,by omega⟩
 . exact Or.inr ⟨rfl,by omega,by omega⟩
def eG (c:Bool) (lo hi X S:Nat):Bool:=aY c lo hi (dnU X S) || aY c lo hi (upU X S)
theorem uQ {c:Bool}{lo X hi S Z:Nat}(h:Rm lo X hi) (S0:0<S) (hz:aY c lo hi Z=true) (g:Z % S=0):eG c lo hi X S=true:=by
 unfold eG
 rw [Bool.or_eq_true]
 rcases Nat.le_total Z X with q | q
 . exact Or.inl (aC0 h hz (aBF S0 g q) (sY X S))
 . exact Or.inr (aC1 h hz (gP S0) (aBG S0 g q))
theorem aCy {c:Bool}{lo X hi S:Nat}(h:eG c lo hi X S=true):∃ Z,aY c lo hi Z=true/\Z % S=0:=by
 unfold eG at h
 rw [Bool.or_eq_true] at h
 rcases h with h | h
 . exact ⟨_,h,aBr X S⟩
 . exact ⟨_,h,aCu X S⟩
theorem yV {c:Bool}{lo X hi S S':Nat}(h:Rm lo X hi) (S0:0<S') (d:S' ∣ S) (a:eG c lo hi X S=true):eG c lo hi X S'=true:=by
 obtain ⟨Z,z1,z2⟩:=aCy a
 exact uQ h S0 z1 (Nat.mod_eq_zero_of_dvd (Nat.dvd_trans d (Nat.dvd_of_mod_eq_zero z2)))
theorem qX {c:Bool}{lo X hi S:Nat}(h:Rm lo X hi) (S0:0<S) (r:rnB X S=true) (d:aY c lo hi (dnU X S)=true):aY c lo hi (upU X S)=true:=by
 unfold rnB at r
 rw [decide_eq_true_eq] at r
 have z:0<X % S:=by omega
 have e1:=jD S0 z
 have e2:=@fI X S
 have e3:=h.wide
 have e4:=h.below
 have e5:=h.above
 have e6:=@gP X S S0
 rw [cM] at d ⊢
 rw [e1] at e6 ⊢
 generalize dnU X S=y at *
 generalize X % S=t at *
 rcases d with ⟨rfl,_,_⟩ | ⟨rfl,_,_⟩
 . exact Or.inl ⟨rfl,by omega,by omega⟩
 . exact Or.inr ⟨rfl,by omega,by omega⟩
def cS (c:Bool) (lo hi X S:Nat):Option Nat:=if aY c lo hi (rnU X S) then some (rnU X S) else if aY c lo hi (upU X S) then some (upU X S) else none
theorem xB        {c : Bool} {lo X hi S : Nat} (h : Rm lo X hi) (S0 : 0 < S) : cS    c lo hi X S = none ↔ eG   c lo hi X S = false := by
  unfold cS    eG
  rw [Bool.or_eq_false_iff]
  constructor
  · intro q
    cases u : aY   c lo hi (upU X S) with
    | true =>
      rw [u, if_pos rfl] at q
      split at q <;> cases q
    | false =>
      refine ⟨?_, rfl⟩
      cases d : aY   c lo hi (dnU X S) with
      | false => rfl
      | true =>
        exfalso
        cases r : rnB X S with
        | true => rw [qX      h S0 r d] at u; cases u
        | false =>
          have e : rnU X S = dnU X S := by unfold rnU; rw [r]; rfl
          rw [e, d, if_pos rfl] at q
          cases q
  · rintro ⟨a, b⟩
    have e : aY   c lo hi (rnU X S) = false := by unfold rnU; split <;> assumption
    rw [e, b]
    rfl
theorem aEn {f T:Nat}{L:Int}(h:Fs f T L) {m:Nat}(hm:m<T * 2 ^ f) (h0:m ≠ 0):Rm (loF f L m) (vlF f L m) (hiF f L m):=by
 obtain ⟨k,rfl⟩:∃ k,m=k+1:=⟨m - 1,by omega⟩
 have a:=aBe h hm h0
 have b:=lG h hm
 have e1:=nY h hm
 have e2:=zW h hm
 have g:gF f L k<=gF f L (k+1):=by
  unfold gF fv
  have x:=(jF f L k).1
  exact Nat.mul_le_mul_right _ (Nat.mul_le_mul_left 1 (Nat.pow_le_pow_right (by decide) (by omega)))
 exact ⟨a,b,by omega⟩
theorem qO {b z:Int}{n:Int}(HU:∀ W,Cb 120 #[vU b,vI z] W (.tuple #[.agg #[.bool false,vI 0,vU 0,vI 0],.iface 69 (vI n)])) (w:World) :
 Cb 83 #[vU b,vI z] w (.tuple #[.agg #[.bool false,vI 0,vU 0,vI 0],.iface 69 (vI n)]):=by
 have F0:Hid (Bk (w.alloc (.cells #[.bool false,vI 0,vU 0,vI 0] 128)) (w.heap.size) [.bool false,vI 0,vU 0,vI 0]/\Bl w (w.alloc (.cells #[.bool false,vI 0,vU 0,vI 0] 128))):=⟨Bk.new4 w (.bool false) (vI 0) (vU 0) (vI 0) 128,((Below.refl w.heap.size w)).alloc (Nat.le_refl _) _⟩
 go_enter Tryz.func83,Tryz.ntmps83
 go_upto_region 1 with fail
 generalize (w.alloc (.cells #[.bool false,vI 0,vU 0,vI 0] 128))=w1 at *
 go_wp2_with fail
 all_goals first | (exfalso;omega) | skip
 refine (HU _).mono ?_
 rintro o2 w2 ⟨rfl,bb⟩
 have F1:Hid (Bk w2 (w.heap.size) [.bool false,vI 0,vU 0,vI 0]/\Bl w w2):=⟨(F0.out.1).step bb,(F0.out.2).trans (bb.mono (F0.out.2).size)⟩
 clear F0
 clear bb
 have lt0_1:=(F1.out.1).lt
 have le1:=(F1.out.2).size
 have F2:Hid (Bk (w2.alloc (.cells #[.bool false,vI 0,vU 0,vI 0] 128)) (w.heap.size) [.bool false,vI 0,vU 0,vI 0]/\Bk (w2.alloc (.cells #[.bool false,vI 0,vU 0,vI 0] 128)) (w2.heap.size) [.bool false,vI 0,vU 0,vI 0]/\Bl w (w2.alloc (.cells #[.bool false,vI 0,vU 0,vI 0] 128))):=⟨(F1.out.1).step (bz _ _),Bk.new4 w2 (.bool false) (vI 0) (vU 0) (vI 0) 128,(F1.out.2).alloc ((F1.out.2).size) _⟩
 clear F1
 go_upto_region 2 with fail
 generalize (w2.alloc (.cells #[.bool false,vI 0,vU 0,vI 0] 128))=w3 at *
 have l1_0:=F2.out.1.lt
 have a1_0_0:=F2.out.1.cell 0 _ rfl
 have f1_0_0:=F2.out.1.fz 0
 have a1_0_1:=F2.out.1.cell 1 _ rfl
 have f1_0_1:=F2.out.1.fz 1
 have a1_0_2:=F2.out.1.cell 2 _ rfl
 have f1_0_2:=F2.out.1.fz 2
 have a1_0_3:=F2.out.1.cell 3 _ rfl
 have f1_0_3:=F2.out.1.fz 3
 have l1_1:=F2.out.2.1.lt
 have a1_1_0:=F2.out.2.1.cell 0 _ rfl
 have f1_1_0:=F2.out.2.1.fz 0
 have a1_1_1:=F2.out.2.1.cell 1 _ rfl
 have f1_1_1:=F2.out.2.1.fz 1
 have a1_1_2:=F2.out.2.1.cell 2 _ rfl
 have f1_1_2:=F2.out.2.1.fz 2
 have a1_1_3:=F2.out.2.1.cell 3 _ rfl
 have f1_1_3:=F2.out.2.1.fz 3
 have ne1_0_1:¬ w.heap.size=w2.heap.size:=by omega
 have ne1_1_0:¬ w2.heap.size=w.heap.size:=by omega
 go_wp2
 refine bodyPost_ret (v:=.tuple #[.agg #[.bool false,vI 0,vU 0,vI 0],.iface 69 (vI n)]) (by simp [results,Tryz.results83,go_sem,World.cell?_setCell_same,World.cell?_setCell_other, *]) rfl ⟨rfl,?_⟩
 repeat (first | refine Below.setCell ?_ (by first | exact Nat.le_refl _ | (dsimp only;omega)) _ | refine Below.alloc ?_ (by first | exact Nat.le_refl _ | omega | (simp;omega)) _ | refine Below.drew ?_)
 exact F2.out.2.2
theorem zP {b z:Int}{c:Bool}{M E:Int}(HU:∀ W,Cb 120 #[vU b,vI z] W (.tuple #[.agg #[.bool c,vI 2,vU M,vI E],.nilIface])) (w:World) :
 Cb 83 #[vU b,vI z] w (.tuple #[.agg #[.bool c,vI 2,vU M,vI E],.nilIface]):=by
 have F0:Hid (Bk (w.alloc (.cells #[.bool false,vI 0,vU 0,vI 0] 128)) (w.heap.size) [.bool false,vI 0,vU 0,vI 0]/\Bl w (w.alloc (.cells #[.bool false,vI 0,vU 0,vI 0] 128))):=⟨Bk.new4 w (.bool false) (vI 0) (vU 0) (vI 0) 128,((Below.refl w.heap.size w)).alloc (Nat.le_refl _) _⟩
 go_enter Tryz.func83,Tryz.ntmps83
 go_upto_region 1 with fail
 generalize (w.alloc (.cells #[.bool false,vI 0,vU 0,vI 0] 128))=w1 at *
 go_wp2_with fail
 all_goals first | (exfalso;omega) | skip
 refine (HU _).mono ?_
 rintro o2 w2 ⟨rfl,bb⟩
 have F1:Hid (Bk w2 (w.heap.size) [.bool false,vI 0,vU 0,vI 0]/\Bl w w2):=⟨(F0.out.1).step bb,(F0.out.2).trans (bb.mono (F0.out.2).size)⟩
 clear F0
 clear bb
 have lt0_1:=(F1.out.1).lt
 have le1:=(F1.out.2).size
 have F2:Hid (Bk (w2.alloc (.cells #[.bool c,vI 2,vU M,vI E] 128)) (w.heap.size) [.bool false,vI 0,vU 0,vI 0]/\Bk (w2.alloc (.cells #[.bool c,vI 2,vU M,vI E] 128)) (w2.heap.size) [.bool c,vI 2,vU M,vI E]/\Bl w (w2.alloc (.cells #[.bool c,vI 2,vU M,vI E] 128))):=⟨(F1.out.1).step (bz _ _),Bk.new4 w2 (.bool c) (vI 2) (vU M) (vI E) 128,(F1.out.2).alloc ((F1.out.2).size) _⟩
 clear F1
 go_upto_region 2 with fail
 generalize (w2.alloc (.cells #[.bool c,vI 2,vU M,vI E] 128))=w3 at *
 have l1_0:=F2.out.1.lt
 have a1_0_0:=F2.out.1.cell 0 _ rfl
 have f1_0_0:=F2.out.1.fz 0
 have a1_0_1:=F2.out.1.cell 1 _ rfl
 have f1_0_1:=F2.out.1.fz 1
 have a1_0_2:=F2.out.1.cell 2 _ rfl
 have f1_0_2:=F2.out.1.fz 2
 have a1_0_3:=F2.out.1.cell 3 _ rfl
 have f1_0_3:=F2.out.1.fz 3
 have l1_1:=F2.out.2.1.lt
 have a1_1_0:=F2.out.2.1.cell 0 _ rfl
 have f1_1_0:=F2.out.2.1.fz 0
 have a1_1_1:=F2.out.2.1.cell 1 _ rfl
 have f1_1_1:=F2.out.2.1.fz 1
 have a1_1_2:=F2.out.2.1.cell 2 _ rfl
 have f1_1_2:=F2.out.2.1.fz 2
 have a1_1_3:=F2.out.2.1.cell 3 _ rfl
 have f1_1_3:=F2.out.2.1.fz 3
 have ne1_0_1:¬ w.heap.size=w2.heap.size:=by omega
 have ne1_1_0:¬ w2.heap.size=w.heap.size:=by omega
 go_wp2
 refine bodyPost_ret (v:=.tuple #[.agg #[.bool c,vI 2,vU M,vI E],.nilIface]) (by simp [results,Tryz.results83,go_sem,World.cell?_setCell_same,World.cell?_setCell_other, *]) rfl ⟨rfl,?_⟩
 repeat (first | refine Below.setCell ?_ (by first | exact Nat.le_refl _ | (dsimp only;omega)) _ | refine Below.alloc ?_ (by first | exact Nat.le_refl _ | omega | (simp;omega)) _ | refine Below.drew ?_)
 exact F2.out.2.2
theorem aBy {b z:Int}{c:Bool}{k:Int}(q1:(k == 2)=false) (q2:(k == 1)=false) (HU:∀ W,Cb 120 #[vU b,vI z] W (.tuple #[.agg #[.bool c,vI k,vU 0,vI 0],.nilIface])) (w:World) :
 Cb 83 #[vU b,vI z] w (.tuple #[.agg #[.bool false,vI 0,vU 0,vI 0],.iface 69 (vI 1)]):=by
 have F0:Hid (Bk (w.alloc (.cells #[.bool false,vI 0,vU 0,vI 0] 128)) (w.heap.size) [.bool false,vI 0,vU 0,vI 0]/\Bl w (w.alloc (.cells #[.bool false,vI 0,vU 0,vI 0] 128))):=⟨Bk.new4 w (.bool false) (vI 0) (vU 0) (vI 0) 128,((Below.refl w.heap.size w)).alloc (Nat.le_refl _) _⟩
 go_enter Tryz.func83,Tryz.ntmps83
 go_upto_region 1 with fail
 generalize (w.alloc (.cells #[.bool false,vI 0,vU 0,vI 0] 128))=w1 at *
 go_wp2_with fail
 all_goals first | (exfalso;omega) | skip
 refine (HU _).mono ?_
 rintro o2 w2 ⟨rfl,bb⟩
 have F1:Hid (Bk w2 (w.heap.size) [.bool false,vI 0,vU 0,vI 0]/\Bl w w2):=⟨(F0.out.1).step bb,(F0.out.2).trans (bb.mono (F0.out.2).size)⟩
 clear F0
 clear bb
 have lt0_1:=(F1.out.1).lt
 have le1:=(F1.out.2).size
 have F2:Hid (Bk (w2.alloc (.cells #[.bool c,vI k,vU 0,vI 0] 128)) (w.heap.size) [.bool false,vI 0,vU 0,vI 0]/\Bk (w2.alloc (.cells #[.bool c,vI k,vU 0,vI 0] 128)) (w2.heap.size) [.bool c,vI k,vU 0,vI 0]/\Bl w (w2.alloc (.cells #[.bool c,vI k,vU 0,vI 0] 128))):=⟨(F1.out.1).step (bz _ _),Bk.new4 w2 (.bool c) (vI k) (vU 0) (vI 0) 128,(F1.out.2).alloc ((F1.out.2).size) _⟩
 clear F1
 go_upto_region 2 with fail
 generalize (w2.alloc (.cells #[.bool c,vI k,vU 0,vI 0] 128))=w3 at *
 have l1_0:=F2.out.1.lt
 have a1_0_0:=F2.out.1.cell 0 _ rfl
 have f1_0_0:=F2.out.1.fz 0
 have a1_0_1:=F2.out.1.cell 1 _ rfl
 have f1_0_1:=F2.out.1.fz 1
 have a1_0_2:=F2.out.1.cell 2 _ rfl
 have f1_0_2:=F2.out.1.fz 2
 have a1_0_3:=F2.out.1.cell 3 _ rfl
 have f1_0_3:=F2.out.1.fz 3
 have l1_1:=F2.out.2.1.lt
 have a1_1_0:=F2.out.2.1.cell 0 _ rfl
 have f1_1_0:=F2.out.2.1.fz 0
 have a1_1_1:=F2.out.2.1.cell 1 _ rfl
 have f1_1_1:=F2.out.2.1.fz 1
 have a1_1_2:=F2.out.2.1.cell 2 _ rfl
 have f1_1_2:=F2.out.2.1.fz 2
 have a1_1_3:=F2.out.2.1.cell 3 _ rfl
 have f1_1_3:=F2.out.2.1.fz 3
 have ne1_0_1:¬ w.heap.size=w2.heap.size:=by omega
 have ne1_1_0:¬ w2.heap.size=w.heap.size:=by omega
 go_wp2
 refine bodyPost_ret (v:=.tuple #[.agg #[.bool false,vI 0,vU 0,vI 0],.iface 69 (vI 1)]) (by simp [results,Tryz.results83,go_sem,World.cell?_setCell_same,World.cell?_setCell_other, *]) rfl ⟨rfl,?_⟩
 repeat (first | refine Below.setCell ?_ (by first | exact Nat.le_refl _ | (dsimp only;omega)) _ | refine Below.alloc ?_ (by first | exact Nat.le_refl _ | omega | (simp;omega)) _ | refine Below.drew ?_)
 exact F2.out.2.2
theorem zQ {b z:Int}{c d:Bool}{k M E:Int}(HU:∀ W,Cb 120 #[vU b,vI z] W (.tuple #[.agg #[.bool c,vI 1,vU 0,vI 0],.nilIface])) (HL:∀ W,Cb 121 #[vI z] W (.tuple #[vU 1,.nilIface])) (H1:∀ W,Cb 120 #[vU 1,vI z] W (.tuple #[.agg #[.bool d,vI k,vU M,vI E],.nilIface])) (w:World) :
 Cb 83 #[vU b,vI z] w (.tuple #[.agg #[.bool c,vI 1,vU 0,vI E],.nilIface]):=by
 have F0:Hid (Bk (w.alloc (.cells #[.bool false,vI 0,vU 0,vI 0] 128)) (w.heap.size) [.bool false,vI 0,vU 0,vI 0]/\Bl w (w.alloc (.cells #[.bool false,vI 0,vU 0,vI 0] 128))):=⟨Bk.new4 w (.bool false) (vI 0) (vU 0) (vI 0) 128,((Below.refl w.heap.size w)).alloc (Nat.le_refl _) _⟩
 go_enter Tryz.func83,Tryz.ntmps83
 go_upto_region 1 with fail
 generalize (w.alloc (.cells #[.bool false,vI 0,vU 0,vI 0] 128))=w1 at *
 go_wp2_with fail
 all_goals first | (exfalso;omega) | skip
 refine (HU _).mono ?_
 rintro o2 w2 ⟨rfl,bb⟩
 have F1:Hid (Bk w2 (w.heap.size) [.bool false,vI 0,vU 0,vI 0]/\Bl w w2):=⟨(F0.out.1).step bb,(F0.out.2).trans (bb.mono (F0.out.2).size)⟩
 clear F0
 clear bb
 have lt0_1:=(F1.out.1).lt
 have le1:=(F1.out.2).size
 have F2:Hid (Bk (w2.alloc (.cells #[.bool c,vI 1,vU 0,vI 0] 128)) (w.heap.size) [.bool false,vI 0,vU 0,vI 0]/\Bk (w2.alloc (.cells #[.bool c,vI 1,vU 0,vI 0] 128)) (w2.heap.size) [.bool c,vI 1,vU 0,vI 0]/\Bl w (w2.alloc (.cells #[.bool c,vI 1,vU 0,vI 0] 128))):=⟨(F1.out.1).step (bz _ _),Bk.new4 w2 (.bool c) (vI 1) (vU 0) (vI 0) 128,(F1.out.2).alloc ((F1.out.2).size) _⟩
 clear F1
 go_upto_region 2 with fail
 generalize (w2.alloc (.cells #[.bool c,vI 1,vU 0,vI 0] 128))=w3 at *
 have l1_0:=F2.out.1.lt
 have a1_0_0:=F2.out.1.cell 0 _ rfl
 have f1_0_0:=F2.out.1.fz 0
 have a1_0_1:=F2.out.1.cell 1 _ rfl
 have f1_0_1:=F2.out.1.fz 1
 have a1_0_2:=F2.out.1.cell 2 _ rfl
 have f1_0_2:=F2.out.1.fz 2
 have a1_0_3:=F2.out.1.cell 3 _ rfl
 have f1_0_3:=F2.out.1.fz 3
 have l1_1:=F2.out.2.1.lt
 have a1_1_0:=F2.out.2.1.cell 0 _ rfl
 have f1_1_0:=F2.out.2.1.fz 0
 have a1_1_1:=F2.out.2.1.cell 1 _ rfl
 have f1_1_1:=F2.out.2.1.fz 1
 have a1_1_2:=F2.out.2.1.cell 2 _ rfl
 have f1_1_2:=F2.out.2.1.fz 2
 have a1_1_3:=F2.out.2.1.cell 3 _ rfl
 have f1_1_3:=F2.out.2.1.fz 3
 have ne1_0_1:¬ w.heap.size=w2.heap.size:=by omega
 have ne1_1_0:¬ w2.heap.size=w.heap.size:=by omega
 go_wp2_with fail
 all_goals first | (exfalso;omega) | skip
 refine (HL _).mono ?_
 rintro o4 w4 ⟨rfl,bb⟩
 have F3:Hid (Bk w4 (w.heap.size) [.bool false,vI 0,vU 0,vI 0]/\Bk w4 (w2.heap.size) [.bool c,vI 1,vU 0,vI 0]/\Bl w w4):=⟨(F2.out.1).step bb,(F2.out.2.1).step bb,(F2.out.2.2).trans (bb.mono (F2.out.2.2).size)⟩
 clear F2
 clear bb
 clear l1_0 a1_0_0 f1_0_0 a1_0_1 f1_0_1 a1_0_2 f1_0_2 a1_0_3 f1_0_3 l1_1 a1_1_0 f1_1_0 a1_1_1 f1_1_1 a1_1_2 f1_1_2 a1_1_3 f1_1_3
 go_wp2_with fail
 all_goals first | (exfalso;omega) | skip
 refine (H1 _).mono ?_
 rintro o5 w5 ⟨rfl,bb⟩
 have F4:Hid (Bk w5 (w.heap.size) [.bool false,vI 0,vU 0,vI 0]/\Bk w5 (w2.heap.size) [.bool c,vI 1,vU 0,vI 0]/\Bl w w5):=⟨(F3.out.1).step bb,(F3.out.2.1).step bb,(F3.out.2.2).trans (bb.mono (F3.out.2.2).size)⟩
 clear F3
 clear bb
 have lt0_2:=(F4.out.1).lt
 have lt1_2:=(F4.out.2.1).lt
 have le2:=(F4.out.2.2).size
 have F5:Hid (Bk (w5.alloc (.cells #[.bool d,vI k,vU M,vI E] 128)) (w.heap.size) [.bool false,vI 0,vU 0,vI 0]/\Bk (w5.alloc (.cells #[.bool d,vI k,vU M,vI E] 128)) (w2.heap.size) [.bool c,vI 1,vU 0,vI 0]/\Bk (w5.alloc (.cells #[.bool d,vI k,vU M,vI E] 128)) (w5.heap.size) [.bool d,vI k,vU M,vI E]/\Bl w (w5.alloc (.cells #[.bool d,vI k,vU M,vI E] 128))):=⟨(F4.out.1).step (bz _ _),(F4.out.2.1).step (bz _ _),Bk.new4 w5 (.bool d) (vI k) (vU M) (vI E) 128,(F4.out.2.2).alloc ((F4.out.2.2).size) _⟩
 clear F4
 go_upto_region 10 with fail
 generalize (w5.alloc (.cells #[.bool d,vI k,vU M,vI E] 128))=w6 at *
 have l2_0:=F5.out.1.lt
 have a2_0_0:=F5.out.1.cell 0 _ rfl
 have f2_0_0:=F5.out.1.fz 0
 have a2_0_1:=F5.out.1.cell 1 _ rfl
 have f2_0_1:=F5.out.1.fz 1
 have a2_0_2:=F5.out.1.cell 2 _ rfl
 have f2_0_2:=F5.out.1.fz 2
 have a2_0_3:=F5.out.1.cell 3 _ rfl
 have f2_0_3:=F5.out.1.fz 3
 have l2_1:=F5.out.2.1.lt
 have a2_1_0:=F5.out.2.1.cell 0 _ rfl
 have f2_1_0:=F5.out.2.1.fz 0
 have a2_1_1:=F5.out.2.1.cell 1 _ rfl
 have f2_1_1:=F5.out.2.1.fz 1
 have a2_1_2:=F5.out.2.1.cell 2 _ rfl
 have f2_1_2:=F5.out.2.1.fz 2
 have a2_1_3:=F5.out.2.1.cell 3 _ rfl
 have f2_1_3:=F5.out.2.1.fz 3
 have l2_2:=F5.out.2.2.1.lt
 have a2_2_0:=F5.out.2.2.1.cell 0 _ rfl
 have f2_2_0:=F5.out.2.2.1.fz 0
 have a2_2_1:=F5.out.2.2.1.cell 1 _ rfl
 have f2_2_1:=F5.out.2.2.1.fz 1
 have a2_2_2:=F5.out.2.2.1.cell 2 _ rfl
 have f2_2_2:=F5.out.2.2.1.fz 2
 have a2_2_3:=F5.out.2.2.1.cell 3 _ rfl
 have f2_2_3:=F5.out.2.2.1.fz 3
 have ne2_0_1:¬ w.heap.size=w2.heap.size:=by omega
 have ne2_0_2:¬ w.heap.size=w5.heap.size:=by omega
 have ne2_1_0:¬ w2.heap.size=w.heap.size:=by omega
 have ne2_1_2:¬ w2.heap.size=w5.heap.size:=by omega
 have ne2_2_0:¬ w5.heap.size=w.heap.size:=by omega
 have ne2_2_1:¬ w5.heap.size=w2.heap.size:=by omega
 go_wp2
 refine bodyPost_ret (v:=.tuple #[.agg #[.bool c,vI 1,vU 0,vI E],.nilIface]) (by simp [results,Tryz.results83,go_sem,World.cell?_setCell_same,World.cell?_setCell_other, *]) rfl ⟨rfl,?_⟩
 repeat (first | refine Below.setCell ?_ (by first | exact Nat.le_refl _ | (dsimp only;omega)) _ | refine Below.alloc ?_ (by first | exact Nat.le_refl _ | omega | (simp;omega)) _ | refine Below.drew ?_)
 exact F5.out.2.2.2
theorem aBH {c:Bool}{k:Int}{M:Nat}{E:Int}{s:ByteArray}{p:Int}(hM:M<9007199254740992) (e1:-1074<=E) (e2:E<=971) (HD:∀ W,Cb 84 #[vU (2 * (M:Int)+1),vI (E - 1)] W (.agg #[.string s,vI p,.bool false])) (w:World) :
 Cb 119 #[.agg #[.bool c,vI k,vU (M:Int),vI E]] w (.agg #[.string s,vI p,.bool false]):=by
 have F0:Hid (Bk ((w.alloc (.cells #[.bool c,vI k,vU (M:Int),vI E] 128)).alloc (.cells #[.string ⟨#[]⟩,vI 0,.bool false] 24)) (w.heap.size) [.bool c,vI k,vU (M:Int),vI E]/\Bk ((w.alloc (.cells #[.bool c,vI k,vU (M:Int),vI E] 128)).alloc (.cells #[.string ⟨#[]⟩,vI 0,.bool false] 24)) (w.heap.size+1) [.string ⟨#[]⟩,vI 0,.bool false]/\Bl w ((w.alloc (.cells #[.bool c,vI k,vU (M:Int),vI E] 128)).alloc (.cells #[.string ⟨#[]⟩,vI 0,.bool false] 24))):=⟨(Bk.new4 w (.bool c) (vI k) (vU (M:Int)) (vI E) 128).step (bz _ _),((by have q:=Bk.new3 (w.alloc (.cells #[.bool c,vI k,vU (M:Int),vI E] 128)) (.string ⟨#[]⟩) (vI 0) (.bool false) 24;simpa using q):Bk ((w.alloc (.cells #[.bool c,vI k,vU (M:Int),vI E] 128)).alloc (.cells #[.string ⟨#[]⟩,vI 0,.bool false] 24)) (w.heap.size+1) [.string ⟨#[]⟩,vI 0,.bool false]),(((Below.refl w.heap.size w)).alloc (Nat.le_refl _) _).alloc ((((Below.refl w.heap.size w)).alloc (Nat.le_refl _) _).size) _⟩
 go_enter Tryz.func119,Tryz.ntmps119
 go_upto_region 1 with fail
 generalize ((w.alloc (.cells #[.bool c,vI k,vU (M:Int),vI E] 128)).alloc (.cells #[.string ⟨#[]⟩,vI 0,.bool false] 24))=w1 at *
 have l1_0:=F0.out.1.lt
 have a1_0_0:=F0.out.1.cell 0 _ rfl
 have f1_0_0:=F0.out.1.fz 0
 have a1_0_1:=F0.out.1.cell 1 _ rfl
 have f1_0_1:=F0.out.1.fz 1
 have a1_0_2:=F0.out.1.cell 2 _ rfl
 have f1_0_2:=F0.out.1.fz 2
 have a1_0_3:=F0.out.1.cell 3 _ rfl
 have f1_0_3:=F0.out.1.fz 3
 have l1_1:=F0.out.2.1.lt
 have a1_1_0:=F0.out.2.1.cell 0 _ rfl
 have f1_1_0:=F0.out.2.1.fz 0
 have a1_1_1:=F0.out.2.1.cell 1 _ rfl
 have f1_1_1:=F0.out.2.1.fz 1
 have a1_1_2:=F0.out.2.1.cell 2 _ rfl
 have f1_1_2:=F0.out.2.1.fz 2
 have ne1_0_1:¬ w.heap.size=w.heap.size+1:=by omega
 have ne1_1_0:¬ w.heap.size+1=w.heap.size:=by omega
 go_wp2_with fail
 all_goals first | (exfalso;omega) | skip
 refine (HD _).mono ?_
 rintro o2 w2 ⟨rfl,bb⟩
 have F1:Hid (Bk w2 (w.heap.size) [.bool c,vI k,vU (M:Int),vI E]/\Bk w2 (w.heap.size+1) [.string ⟨#[]⟩,vI 0,.bool false]/\Bl w w2):=⟨(F0.out.1).step bb,(F0.out.2.1).step bb,(F0.out.2.2).trans (bb.mono (F0.out.2.2).size)⟩
 clear F0
 clear bb
 clear l1_0 a1_0_0 f1_0_0 a1_0_1 f1_0_1 a1_0_2 f1_0_2 a1_0_3 f1_0_3 l1_1 a1_1_0 f1_1_0 a1_1_1 f1_1_1 a1_1_2 f1_1_2
 have l2_0:=F1.out.1.lt
 have a2_0_0:=F1.out.1.cell 0 _ rfl
 have f2_0_0:=F1.out.1.fz 0
 have a2_0_1:=F1.out.1.cell 1 _ rfl
 have f2_0_1:=F1.out.1.fz 1
 have a2_0_2:=F1.out.1.cell 2 _ rfl
 have f2_0_2:=F1.out.1.fz 2
 have a2_0_3:=F1.out.1.cell 3 _ rfl
 have f2_0_3:=F1.out.1.fz 3
 have l2_1:=F1.out.2.1.lt
 have a2_1_0:=F1.out.2.1.cell 0 _ rfl
 have f2_1_0:=F1.out.2.1.fz 0
 have a2_1_1:=F1.out.2.1.cell 1 _ rfl
 have f2_1_1:=F1.out.2.1.fz 1
 have a2_1_2:=F1.out.2.1.cell 2 _ rfl
 have f2_1_2:=F1.out.2.1.fz 2
 have ne2_0_1:¬ w.heap.size=w.heap.size+1:=by omega
 have ne2_1_0:¬ w.heap.size+1=w.heap.size:=by omega
 go_wp2
 refine bodyPost_ret (v:=.agg #[.string s,vI p,.bool false]) (by simp [results,Tryz.results119,go_sem,World.cell?_setCell_same,World.cell?_setCell_other, *]) rfl ⟨rfl,?_⟩
 repeat (first | refine Below.setCell ?_ (by first | exact Nat.le_refl _ | (dsimp only;omega)) _ | refine Below.alloc ?_ (by first | exact Nat.le_refl _ | omega | (simp;omega)) _ | refine Below.drew ?_)
 exact F1.out.2.2
theorem zY {b z:Int}{n:Int}(HP:∀ W,Cb 141 #[vU b,vI z] W (.tuple #[vU 0,.iface 69 (vI n)])) (w:World) :
 Cb 118 #[vU b,vI z] w (.agg #[.string ⟨#[]⟩,vI 0,.bool false]):=by
 have F0:Hid (Bk (w.alloc (.cells #[.string ⟨#[]⟩,vI 0,.bool false] 24)) (w.heap.size) [.string ⟨#[]⟩,vI 0,.bool false]/\Bl w (w.alloc (.cells #[.string ⟨#[]⟩,vI 0,.bool false] 24))):=⟨Bk.new3 w (.string ⟨#[]⟩) (vI 0) (.bool false) 24,((Below.refl w.heap.size w)).alloc (Nat.le_refl _) _⟩
 go_enter Tryz.func118,Tryz.ntmps118
 go_upto_region 1 with fail
 generalize (w.alloc (.cells #[.string ⟨#[]⟩,vI 0,.bool false] 24))=w1 at *
 go_wp2_with fail
 all_goals first | (exfalso;omega) | skip
 refine (HP _).mono ?_
 rintro o2 w2 ⟨rfl,bb⟩
 have F1:Hid (Bk w2 (w.heap.size) [.string ⟨#[]⟩,vI 0,.bool false]/\Bl w w2):=⟨(F0.out.1).step bb,(F0.out.2).trans (bb.mono (F0.out.2).size)⟩
 clear F0
 clear bb
 have l1_0:=F1.out.1.lt
 have a1_0_0:=F1.out.1.cell 0 _ rfl
 have f1_0_0:=F1.out.1.fz 0
 have a1_0_1:=F1.out.1.cell 1 _ rfl
 have f1_0_1:=F1.out.1.fz 1
 have a1_0_2:=F1.out.1.cell 2 _ rfl
 have f1_0_2:=F1.out.1.fz 2
 go_wp2
 refine bodyPost_ret (v:=.agg #[.string ⟨#[]⟩,vI 0,.bool false]) (by simp [results,Tryz.results118,go_sem,World.cell?_setCell_same,World.cell?_setCell_other, *]) rfl ⟨rfl,?_⟩
 repeat (first | refine Below.setCell ?_ (by first | exact Nat.le_refl _ | (dsimp only;omega)) _ | refine Below.alloc ?_ (by first | exact Nat.le_refl _ | omega | (simp;omega)) _ | refine Below.drew ?_)
 exact F1.out.2
theorem zZ {b b' z:Int}{c:Bool}{k M E:Int}{s:ByteArray}{p:Int}(HP:∀ W,Cb 141 #[vU b,vI z] W (.tuple #[vU b',.nilIface])) (HF:∀ W,Cb 83 #[vU b',vI z] W (.tuple #[.agg #[.bool c,vI k,vU M,vI E],.nilIface])) (HH:∀ W,Cb 119 #[.agg #[.bool c,vI k,vU M,vI E]] W (.agg #[.string s,vI p,.bool false])) (w:World) :
 Cb 118 #[vU b,vI z] w (.agg #[.string s,vI p,.bool false]):=by
 have F0:Hid (Bk (w.alloc (.cells #[.string ⟨#[]⟩,vI 0,.bool false] 24)) (w.heap.size) [.string ⟨#[]⟩,vI 0,.bool false]/\Bl w (w.alloc (.cells #[.string ⟨#[]⟩,vI 0,.bool false] 24))):=⟨Bk.new3 w (.string ⟨#[]⟩) (vI 0) (.bool false) 24,((Below.refl w.heap.size w)).alloc (Nat.le_refl _) _⟩
 go_enter Tryz.func118,Tryz.ntmps118
 go_upto_region 1 with fail
 generalize (w.alloc (.cells #[.string ⟨#[]⟩,vI 0,.bool false] 24))=w1 at *
 go_wp2_with fail
 all_goals first | (exfalso;omega) | skip
 refine (HP _).mono ?_
 rintro o2 w2 ⟨rfl,bb⟩
 have F1:Hid (Bk w2 (w.heap.size) [.string ⟨#[]⟩,vI 0,.bool false]/\Bl w w2):=⟨(F0.out.1).step bb,(F0.out.2).trans (bb.mono (F0.out.2).size)⟩
 clear F0
 clear bb
 go_wp2_with fail
 all_goals first | (exfalso;omega) | skip
 refine (HF _).mono ?_
 rintro o3 w3 ⟨rfl,bb⟩
 have F2:Hid (Bk w3 (w.heap.size) [.string ⟨#[]⟩,vI 0,.bool false]/\Bl w w3):=⟨(F1.out.1).step bb,(F1.out.2).trans (bb.mono (F1.out.2).size)⟩
 clear F1
 clear bb
 have lt0_1:=(F2.out.1).lt
 have le1:=(F2.out.2).size
 have F3:Hid (Bk (w3.alloc (.cells #[.bool c,vI k,vU M,vI E] 128)) (w.heap.size) [.string ⟨#[]⟩,vI 0,.bool false]/\Bk (w3.alloc (.cells #[.bool c,vI k,vU M,vI E] 128)) (w3.heap.size) [.bool c,vI k,vU M,vI E]/\Bl w (w3.alloc (.cells #[.bool c,vI k,vU M,vI E] 128))):=⟨(F2.out.1).step (bz _ _),Bk.new4 w3 (.bool c) (vI k) (vU M) (vI E) 128,(F2.out.2).alloc ((F2.out.2).size) _⟩
 clear F2
 go_upto_region 5 with fail
 generalize (w3.alloc (.cells #[.bool c,vI k,vU M,vI E] 128))=w4 at *
 have l1_0:=F3.out.1.lt
 have a1_0_0:=F3.out.1.cell 0 _ rfl
 have f1_0_0:=F3.out.1.fz 0
 have a1_0_1:=F3.out.1.cell 1 _ rfl
 have f1_0_1:=F3.out.1.fz 1
 have a1_0_2:=F3.out.1.cell 2 _ rfl
 have f1_0_2:=F3.out.1.fz 2
 have l1_1:=F3.out.2.1.lt
 have a1_1_0:=F3.out.2.1.cell 0 _ rfl
 have f1_1_0:=F3.out.2.1.fz 0
 have a1_1_1:=F3.out.2.1.cell 1 _ rfl
 have f1_1_1:=F3.out.2.1.fz 1
 have a1_1_2:=F3.out.2.1.cell 2 _ rfl
 have f1_1_2:=F3.out.2.1.fz 2
 have a1_1_3:=F3.out.2.1.cell 3 _ rfl
 have f1_1_3:=F3.out.2.1.fz 3
 have ne1_0_1:¬ w.heap.size=w3.heap.size:=by omega
 have ne1_1_0:¬ w3.heap.size=w.heap.size:=by omega
 go_wp2_with fail
 all_goals first | (exfalso;omega) | skip
 refine (HH _).mono ?_
 rintro o5 w5 ⟨rfl,bb⟩
 have F4:Hid (Bk w5 (w.heap.size) [.string ⟨#[]⟩,vI 0,.bool false]/\Bk w5 (w3.heap.size) [.bool c,vI k,vU M,vI E]/\Bl w w5):=⟨(F3.out.1).step bb,(F3.out.2.1).step bb,(F3.out.2.2).trans (bb.mono (F3.out.2.2).size)⟩
 clear F3
 clear bb
 clear l1_0 a1_0_0 f1_0_0 a1_0_1 f1_0_1 a1_0_2 f1_0_2 l1_1 a1_1_0 f1_1_0 a1_1_1 f1_1_1 a1_1_2 f1_1_2 a1_1_3 f1_1_3
 have l2_0:=F4.out.1.lt
 have a2_0_0:=F4.out.1.cell 0 _ rfl
 have f2_0_0:=F4.out.1.fz 0
 have a2_0_1:=F4.out.1.cell 1 _ rfl
 have f2_0_1:=F4.out.1.fz 1
 have a2_0_2:=F4.out.1.cell 2 _ rfl
 have f2_0_2:=F4.out.1.fz 2
 have l2_1:=F4.out.2.1.lt
 have a2_1_0:=F4.out.2.1.cell 0 _ rfl
 have f2_1_0:=F4.out.2.1.fz 0
 have a2_1_1:=F4.out.2.1.cell 1 _ rfl
 have f2_1_1:=F4.out.2.1.fz 1
 have a2_1_2:=F4.out.2.1.cell 2 _ rfl
 have f2_1_2:=F4.out.2.1.fz 2
 have a2_1_3:=F4.out.2.1.cell 3 _ rfl
 have f2_1_3:=F4.out.2.1.fz 3
 have ne2_0_1:¬ w.heap.size=w3.heap.size:=by omega
 have ne2_1_0:¬ w3.heap.size=w.heap.size:=by omega
 go_wp2
 refine bodyPost_ret (v:=.agg #[.string s,vI p,.bool false]) (by simp [results,Tryz.results118,go_sem,World.cell?_setCell_same,World.cell?_setCell_other, *]) rfl ⟨rfl,?_⟩
 repeat (first | refine Below.setCell ?_ (by first | exact Nat.le_refl _ | (dsimp only;omega)) _ | refine Below.alloc ?_ (by first | exact Nat.le_refl _ | omega | (simp;omega)) _ | refine Below.drew ?_)
 exact F4.out.2.2
theorem aAP {b z:Int}{n:Int}(HF:∀ W,Cb 83 #[vU b,vI z] W (.tuple #[.agg #[.bool false,vI 0,vU 0,vI 0],.iface 69 (vI n)])) (w:World) :
 Cb 82 #[vU b,vI z] w (.tuple #[.agg #[.string ⟨#[]⟩,vI 0,.bool false,.string ⟨#[]⟩,vI 0,.bool false,.bool false],.iface 69 (vI n)]):=by
 have F0:Hid (Bk (w.alloc (.cells #[.string ⟨#[]⟩,vI 0,.bool false,.string ⟨#[]⟩,vI 0,.bool false,.bool false] 124)) (w.heap.size) [.string ⟨#[]⟩,vI 0,.bool false,.string ⟨#[]⟩,vI 0,.bool false,.bool false]/\Bl w (w.alloc (.cells #[.string ⟨#[]⟩,vI 0,.bool false,.string ⟨#[]⟩,vI 0,.bool false,.bool false] 124))):=⟨Bk.new7 w (.string ⟨#[]⟩) (vI 0) (.bool false) (.string ⟨#[]⟩) (vI 0) (.bool false) (.bool false) 124,((Below.refl w.heap.size w)).alloc (Nat.le_refl _) _⟩
 go_enter Tryz.func82,Tryz.ntmps82
 go_upto_region 1 with fail
 generalize (w.alloc (.cells #[.string ⟨#[]⟩,vI 0,.bool false,.string ⟨#[]⟩,vI 0,.bool false,.bool false] 124))=w1 at *
 go_wp2_with fail
 all_goals first | (exfalso;omega) | skip
 refine (HF _).mono ?_
 rintro o2 w2 ⟨rfl,bb⟩
 have F1:Hid (Bk w2 (w.heap.size) [.string ⟨#[]⟩,vI 0,.bool false,.string ⟨#[]⟩,vI 0,.bool false,.bool false]/\Bl w w2):=⟨(F0.out.1).step bb,(F0.out.2).trans (bb.mono (F0.out.2).size)⟩
 clear F0
 clear bb
 have lt0_1:=(F1.out.1).lt
 have le1:=(F1.out.2).size
 have F2:Hid (Bk (w2.alloc (.cells #[.bool false,vI 0,vU 0,vI 0] 128)) (w.heap.size) [.string ⟨#[]⟩,vI 0,.bool false,.string ⟨#[]⟩,vI 0,.bool false,.bool false]/\Bk (w2.alloc (.cells #[.bool false,vI 0,vU 0,vI 0] 128)) (w2.heap.size) [.bool false,vI 0,vU 0,vI 0]/\Bl w (w2.alloc (.cells #[.bool false,vI 0,vU 0,vI 0] 128))):=⟨(F1.out.1).step (bz _ _),Bk.new4 w2 (.bool false) (vI 0) (vU 0) (vI 0) 128,(F1.out.2).alloc ((F1.out.2).size) _⟩
 clear F1
 go_upto_region 2 with fail
 generalize (w2.alloc (.cells #[.bool false,vI 0,vU 0,vI 0] 128))=w3 at *
 have l1_0:=F2.out.1.lt
 have a1_0_0:=F2.out.1.cell 0 _ rfl
 have f1_0_0:=F2.out.1.fz 0
 have a1_0_1:=F2.out.1.cell 1 _ rfl
 have f1_0_1:=F2.out.1.fz 1
 have a1_0_2:=F2.out.1.cell 2 _ rfl
 have f1_0_2:=F2.out.1.fz 2
 have a1_0_3:=F2.out.1.cell 3 _ rfl
 have f1_0_3:=F2.out.1.fz 3
 have a1_0_4:=F2.out.1.cell 4 _ rfl
 have f1_0_4:=F2.out.1.fz 4
 have a1_0_5:=F2.out.1.cell 5 _ rfl
 have f1_0_5:=F2.out.1.fz 5
 have a1_0_6:=F2.out.1.cell 6 _ rfl
 have f1_0_6:=F2.out.1.fz 6
 have l1_1:=F2.out.2.1.lt
 have a1_1_0:=F2.out.2.1.cell 0 _ rfl
 have f1_1_0:=F2.out.2.1.fz 0
 have a1_1_1:=F2.out.2.1.cell 1 _ rfl
 have f1_1_1:=F2.out.2.1.fz 1
 have a1_1_2:=F2.out.2.1.cell 2 _ rfl
 have f1_1_2:=F2.out.2.1.fz 2
 have a1_1_3:=F2.out.2.1.cell 3 _ rfl
 have f1_1_3:=F2.out.2.1.fz 3
 have ne1_0_1:¬ w.heap.size=w2.heap.size:=by omega
 have ne1_1_0:¬ w2.heap.size=w.heap.size:=by omega
 go_wp2
 refine bodyPost_ret (v:=.tuple #[.agg #[.string ⟨#[]⟩,vI 0,.bool false,.string ⟨#[]⟩,vI 0,.bool false,.bool false],.iface 69 (vI n)]) (by simp [results,Tryz.results82,go_sem,World.cell?_setCell_same,World.cell?_setCell_other, *]) rfl ⟨rfl,?_⟩
 repeat (first | refine Below.setCell ?_ (by first | exact Nat.le_refl _ | (dsimp only;omega)) _ | refine Below.alloc ?_ (by first | exact Nat.le_refl _ | omega | (simp;omega)) _ | refine Below.drew ?_)
 exact F2.out.2.2
theorem aCj {b:Nat}{z:Int}(hb:b<18446744073709551616) {c:Bool}{k M E:Int}{s t:ByteArray}{p q:Int}(HF:∀ W,Cb 83 #[vU (b:Int),vI z] W (.tuple #[.agg #[.bool c,vI k,vU M,vI E],.nilIface])) (HL:∀ W,Cb 118 #[vU (b:Int),vI z] W (.agg #[.string s,vI p,.bool false])) (HH:∀ W,Cb 119 #[.agg #[.bool c,vI k,vU M,vI E]] W (.agg #[.string t,vI q,.bool false])) (w:World) :
 Cb 82 #[vU (b:Int),vI z] w (.tuple #[.agg #[.string s,vI p,.bool false,.string t,vI q,.bool false,.bool (decide (b % 2=0))],.nilIface]):=by
 obtain ⟨B,hB⟩:∃ B,B=decide (b % 2=0):=⟨_,rfl⟩
 have eb:((b:Int).tmod 2 == 0)=B:=by
  rw [Int.tmod_eq_emod_of_nonneg (by omega),hB]
  by_cases h:b % 2=0
  . rw [decide_eq_true h];exact beq_iff_eq.mpr (by omega)
  . rw [decide_eq_false h];exact beq_eq_false_iff_ne.mpr (by omega)
 rw [<- hB]
 clear hB
 have F0:Hid (Bk (w.alloc (.cells #[.string ⟨#[]⟩,vI 0,.bool false,.string ⟨#[]⟩,vI 0,.bool false,.bool false] 124)) (w.heap.size) [.string ⟨#[]⟩,vI 0,.bool false,.string ⟨#[]⟩,vI 0,.bool false,.bool false]/\Bl w (w.alloc (.cells #[.string ⟨#[]⟩,vI 0,.bool false,.string ⟨#[]⟩,vI 0,.bool false,.bool false] 124))):=⟨Bk.new7 w (.string ⟨#[]⟩) (vI 0) (.bool false) (.string ⟨#[]⟩) (vI 0) (.bool false) (.bool false) 124,((Below.refl w.heap.size w)).alloc (Nat.le_refl _) _⟩
 go_enter Tryz.func82,Tryz.ntmps82
 go_upto_region 1 with fail
 generalize (w.alloc (.cells #[.string ⟨#[]⟩,vI 0,.bool false,.string ⟨#[]⟩,vI 0,.bool false,.bool false] 124))=w1 at *
 go_wp2_with fail
 all_goals first | (exfalso;omega) | skip
 refine (HF _).mono ?_
 rintro o2 w2 ⟨rfl,bb⟩
 have F1:Hid (Bk w2 (w.heap.size) [.string ⟨#[]⟩,vI 0,.bool false,.string ⟨#[]⟩,vI 0,.bool false,.bool false]/\Bl w w2):=⟨(F0.out.1).step bb,(F0.out.2).trans (bb.mono (F0.out.2).size)⟩
 clear F0
 clear bb
 have lt0_1:=(F1.out.1).lt
 have le1:=(F1.out.2).size
 have F2:Hid (Bk (w2.alloc (.cells #[.bool c,vI k,vU M,vI E] 128)) (w.heap.size) [.string ⟨#[]⟩,vI 0,.bool false,.string ⟨#[]⟩,vI 0,.bool false,.bool false]/\Bk (w2.alloc (.cells #[.bool c,vI k,vU M,vI E] 128)) (w2.heap.size) [.bool c,vI k,vU M,vI E]/\Bl w (w2.alloc (.cells #[.bool c,vI k,vU M,vI E] 128))):=⟨(F1.out.1).step (bz _ _),Bk.new4 w2 (.bool c) (vI k) (vU M) (vI E) 128,(F1.out.2).alloc ((F1.out.2).size) _⟩
 clear F1
 go_upto_region 2 with fail
 generalize (w2.alloc (.cells #[.bool c,vI k,vU M,vI E] 128))=w3 at *
 have l1_0:=F2.out.1.lt
 have a1_0_0:=F2.out.1.cell 0 _ rfl
 have f1_0_0:=F2.out.1.fz 0
 have a1_0_1:=F2.out.1.cell 1 _ rfl
 have f1_0_1:=F2.out.1.fz 1
 have a1_0_2:=F2.out.1.cell 2 _ rfl
 have f1_0_2:=F2.out.1.fz 2
 have a1_0_3:=F2.out.1.cell 3 _ rfl
 have f1_0_3:=F2.out.1.fz 3
 have a1_0_4:=F2.out.1.cell 4 _ rfl
 have f1_0_4:=F2.out.1.fz 4
 have a1_0_5:=F2.out.1.cell 5 _ rfl
 have f1_0_5:=F2.out.1.fz 5
 have a1_0_6:=F2.out.1.cell 6 _ rfl
 have f1_0_6:=F2.out.1.fz 6
 have l1_1:=F2.out.2.1.lt
 have a1_1_0:=F2.out.2.1.cell 0 _ rfl
 have f1_1_0:=F2.out.2.1.fz 0
 have a1_1_1:=F2.out.2.1.cell 1 _ rfl
 have f1_1_1:=F2.out.2.1.fz 1
 have a1_1_2:=F2.out.2.1.cell 2 _ rfl
 have f1_1_2:=F2.out.2.1.fz 2
 have a1_1_3:=F2.out.2.1.cell 3 _ rfl
 have f1_1_3:=F2.out.2.1.fz 3
 have ne1_0_1:¬ w.heap.size=w2.heap.size:=by omega
 have ne1_1_0:¬ w2.heap.size=w.heap.size:=by omega
 go_upto_region 4 with fail
 go_region_held3 (fun w'=>w'.cell? ⟨w2.heap.size,0,none⟩=some (.bool c)/\w'.cell? ⟨w2.heap.size,1,none⟩=some (vI k)/\w'.cell? ⟨w2.heap.size,2,none⟩=some (vU M)/\w'.cell? ⟨w2.heap.size,3,none⟩=some (vI E)) (simp [*,go_sem])
  (first | (go_at_call 118;refine (HL _).mono ?_;rintro p1 v1 ⟨rfl,bb⟩;have G1:Hid (Bk v1 (w.heap.size) [.string ⟨#[]⟩,vI 0,.bool false,.string ⟨#[]⟩,vI 0,.bool false,.bool false]/\Bk v1 (w2.heap.size) [.bool c,vI k,vU M,vI E]/\Bl w v1):=⟨((F2.out.1).step (Below.refl _ _).drew).step bb,((F2.out.2.1).step (Below.refl _ _).drew).step bb,((F2.out.2.2).drew).trans (bb.mono (F2.out.2.2).size)⟩;clear bb;have d1:=G1.out.2.1.lt;have d1_0:=G1.out.2.1.cell 0 _ rfl;have d1_1:=G1.out.2.1.cell 1 _ rfl;have d1_2:=G1.out.2.1.cell 2 _ rfl;have d1_3:=G1.out.2.1.cell 3 _ rfl) | (go_at_call 119;refine (HH _).mono ?_;rintro p2 v2 ⟨rfl,bb⟩;have G2:Hid (Bk v2 (w.heap.size) [.string ⟨#[]⟩,vI 0,.bool false,.string ⟨#[]⟩,vI 0,.bool false,.bool false]/\Bk v2 (w2.heap.size) [.bool c,vI k,vU M,vI E]/\Bl w v2):=⟨G1.out.1.step bb,G1.out.2.1.step bb,G1.out.2.2.trans (bb.mono G1.out.2.2.size)⟩;clear bb;have d2:=G2.out.1.lt;have h2_0:=G2.out.2.1.cell 0 _ rfl;have h2_1:=G2.out.2.1.cell 1 _ rfl;have h2_2:=G2.out.2.1.cell 2 _ rfl;have h2_3:=G2.out.2.1.cell 3 _ rfl;have d2_0:=G2.out.1.cell 0 _ rfl;have g2_0:=G2.out.1.fz 0;have d2_1:=G2.out.1.cell 1 _ rfl;have g2_1:=G2.out.1.fz 1;have d2_2:=G2.out.1.cell 2 _ rfl;have g2_2:=G2.out.1.fz 2;have d2_3:=G2.out.1.cell 3 _ rfl;have g2_3:=G2.out.1.fz 3;have d2_4:=G2.out.1.cell 4 _ rfl;have g2_4:=G2.out.1.fz 4;have d2_5:=G2.out.1.cell 5 _ rfl;have g2_5:=G2.out.1.fz 5;have d2_6:=G2.out.1.cell 6 _ rfl;have g2_6:=G2.out.1.fz 6))
 all_goals
  go_wp2
  refine bodyPost_ret (v:=.tuple #[.agg #[.string s,vI p,.bool false,.string t,vI q,.bool false,.bool B],.nilIface]) (by simp [results,Tryz.results82,go_sem,World.cell?_setCell_same,World.cell?_setCell_other, *]) rfl ⟨rfl,?_⟩
  repeat (first | refine Below.setCell ?_ (by first | exact Nat.le_refl _ | (dsimp only;omega)) _ | refine Below.drew ?_)
  exact G2.out.2.2
theorem aDX {b z:Int}{s t:ByteArray}{p q:Int}{c:Bool}(HS:∀ W,Cb 82 #[vU b,vI z] W (.tuple #[.agg #[.string s,vI p,.bool false,.string t,vI q,.bool false,.bool c],.nilIface])) (w:World) :
 Cb 50 #[vU b,vI z] w (.tuple #[.agg #[.string s,vI p,.bool false],.agg #[.string t,vI q,.bool false],.bool c,.nilIface]):=by
 have F0:Hid (Bk ((w.alloc (.cells #[.string ⟨#[]⟩,vI 0,.bool false] 24)).alloc (.cells #[.string ⟨#[]⟩,vI 0,.bool false] 24)) (w.heap.size) [.string ⟨#[]⟩,vI 0,.bool false]/\Bk ((w.alloc (.cells #[.string ⟨#[]⟩,vI 0,.bool false] 24)).alloc (.cells #[.string ⟨#[]⟩,vI 0,.bool false] 24)) (w.heap.size+1) [.string ⟨#[]⟩,vI 0,.bool false]/\Bl w ((w.alloc (.cells #[.string ⟨#[]⟩,vI 0,.bool false] 24)).alloc (.cells #[.string ⟨#[]⟩,vI 0,.bool false] 24))):=⟨(Bk.new3 w (.string ⟨#[]⟩) (vI 0) (.bool false) 24).step (bz _ _),((by have q:=Bk.new3 (w.alloc (.cells #[.string ⟨#[]⟩,vI 0,.bool false] 24)) (.string ⟨#[]⟩) (vI 0) (.bool false) 24;simpa using q):Bk ((w.alloc (.cells #[.string ⟨#[]⟩,vI 0,.bool false] 24)).alloc (.cells #[.string ⟨#[]⟩,vI 0,.bool false] 24)) (w.heap.size+1) [.string ⟨#[]⟩,vI 0,.bool false]),(((Below.refl w.heap.size w)).alloc (Nat.le_refl _) _).alloc ((((Below.refl w.heap.size w)).alloc (Nat.le_refl _) _).size) _⟩
 go_enter Tryz.func50,Tryz.ntmps50
 go_upto_region 1 with fail
 generalize ((w.alloc (.cells #[.string ⟨#[]⟩,vI 0,.bool false] 24)).alloc (.cells #[.string ⟨#[]⟩,vI 0,.bool false] 24))=w1 at *
 go_wp2_with fail
 all_goals first | (exfalso;omega) | skip
 refine (HS _).mono ?_
 rintro o2 w2 ⟨rfl,bb⟩
 have F1:Hid (Bk w2 (w.heap.size) [.string ⟨#[]⟩,vI 0,.bool false]/\Bk w2 (w.heap.size+1) [.string ⟨#[]⟩,vI 0,.bool false]/\Bl w w2):=⟨(F0.out.1).step bb,(F0.out.2.1).step bb,(F0.out.2.2).trans (bb.mono (F0.out.2.2).size)⟩
 clear F0
 clear bb
 have lt0_2:=(F1.out.1).lt
 have lt1_2:=(F1.out.2.1).lt
 have le2:=(F1.out.2.2).size
 have F2:Hid (Bk (w2.alloc (.cells #[.string s,vI p,.bool false,.string t,vI q,.bool false,.bool c] 124)) (w.heap.size) [.string ⟨#[]⟩,vI 0,.bool false]/\Bk (w2.alloc (.cells #[.string s,vI p,.bool false,.string t,vI q,.bool false,.bool c] 124)) (w.heap.size+1) [.string ⟨#[]⟩,vI 0,.bool false]/\Bk (w2.alloc (.cells #[.string s,vI p,.bool false,.string t,vI q,.bool false,.bool c] 124)) (w2.heap.size) [.string s,vI p,.bool false,.string t,vI q,.bool false,.bool c]/\Bl w (w2.alloc (.cells #[.string s,vI p,.bool false,.string t,vI q,.bool false,.bool c] 124))):=⟨(F1.out.1).step (bz _ _),(F1.out.2.1).step (bz _ _),Bk.new7 w2 (.string s) (vI p) (.bool false) (.string t) (vI q) (.bool false) (.bool c) 124,(F1.out.2.2).alloc ((F1.out.2.2).size) _⟩
 clear F1
 go_upto_region 2 with fail
 generalize (w2.alloc (.cells #[.string s,vI p,.bool false,.string t,vI q,.bool false,.bool c] 124))=w3 at *
 have l1_0:=F2.out.1.lt
 have a1_0_0:=F2.out.1.cell 0 _ rfl
 have f1_0_0:=F2.out.1.fz 0
 have a1_0_1:=F2.out.1.cell 1 _ rfl
 have f1_0_1:=F2.out.1.fz 1
 have a1_0_2:=F2.out.1.cell 2 _ rfl
 have f1_0_2:=F2.out.1.fz 2
 have l1_1:=F2.out.2.1.lt
 have a1_1_0:=F2.out.2.1.cell 0 _ rfl
 have f1_1_0:=F2.out.2.1.fz 0
 have a1_1_1:=F2.out.2.1.cell 1 _ rfl
 have f1_1_1:=F2.out.2.1.fz 1
 have a1_1_2:=F2.out.2.1.cell 2 _ rfl
 have f1_1_2:=F2.out.2.1.fz 2
 have l1_2:=F2.out.2.2.1.lt
 have a1_2_0:=F2.out.2.2.1.cell 0 _ rfl
 have f1_2_0:=F2.out.2.2.1.fz 0
 have a1_2_1:=F2.out.2.2.1.cell 1 _ rfl
 have f1_2_1:=F2.out.2.2.1.fz 1
 have a1_2_2:=F2.out.2.2.1.cell 2 _ rfl
 have f1_2_2:=F2.out.2.2.1.fz 2
 have a1_2_3:=F2.out.2.2.1.cell 3 _ rfl
 have f1_2_3:=F2.out.2.2.1.fz 3
 have a1_2_4:=F2.out.2.2.1.cell 4 _ rfl
 have f1_2_4:=F2.out.2.2.1.fz 4
 have a1_2_5:=F2.out.2.2.1.cell 5 _ rfl
 have f1_2_5:=F2.out.2.2.1.fz 5
 have a1_2_6:=F2.out.2.2.1.cell 6 _ rfl
 have f1_2_6:=F2.out.2.2.1.fz 6
 have ne1_0_1:¬ w.heap.size=w.heap.size+1:=by omega
 have ne1_0_2:¬ w.heap.size=w2.heap.size:=by omega
 have ne1_1_0:¬ w.heap.size+1=w.heap.size:=by omega
 have ne1_1_2:¬ w.heap.size+1=w2.heap.size:=by omega
 have ne1_2_0:¬ w2.heap.size=w.heap.size:=by omega
 have ne1_2_1:¬ w2.heap.size=w.heap.size+1:=by omega
 go_upto_region 4 with fail
 go_region_held3 (fun w'=>w'.cell? ⟨w2.heap.size,0,none⟩=some (.string s)/\w'.cell? ⟨w2.heap.size,1,none⟩=some (vI p)/\w'.cell? ⟨w2.heap.size,2,none⟩=some (.bool false)/\w'.cell? ⟨w2.heap.size,3,none⟩=some (.string t)/\w'.cell? ⟨w2.heap.size,4,none⟩=some (vI q)/\w'.cell? ⟨w2.heap.size,5,none⟩=some (.bool false)/\w'.cell? ⟨w2.heap.size,6,none⟩=some (.bool c)) (simp [*,go_sem]) (fail)
 go_wp2
 refine bodyPost_ret (v:=.tuple #[.agg #[.string s,vI p,.bool false],.agg #[.string t,vI q,.bool false],.bool c,.nilIface]) (by simp [results,Tryz.results50,go_sem,World.cell?_setCell_same,World.cell?_setCell_other, *]) rfl ⟨rfl,?_⟩
 refine Below.drew ?_
 repeat (first | refine Below.setCell ?_ (by first | exact Nat.le_refl _ | (dsimp only;omega)) _ | refine Below.alloc ?_ (by first | exact Nat.le_refl _ | omega | (simp;omega)) _ | refine Below.drew ?_)
 exact F2.out.2.2.2
def Sf (z:Int) (f T:Nat) (L:Int) (S I:Nat):Prop :=
 (z=32/\f=23/\T=255/\L = -149/\S=2147483648/\I=2139095040) \/ (z=64/\f=52/\T=2047/\L = -1074/\S=9223372036854775808/\I=9218868437227405312)
structure Fn (z:Int) (f T:Nat) (L:Int) (S I b:Nat):Prop where
 sf:Sf z f T L S I
 lt:b<2 * S
 fin:mg S b<I
def Bad (b:Nat) (z n:Int):Prop:=(Sn z/\n=5) \/ (z=32/\4294967296<=b/\n=1) \/ ∃ f T L S I,Sf z f T L S I/\b<2 * S/\I<=mg S b/\n=1
theorem aD9 (b:Nat) (z:Int) (hb:b<18446744073709551616):(∃ n,Bad b z n) \/ ∃ f T L S I,Fn z f T L S I b:=by
 by_cases h1:z=32
 . by_cases h2:b<4294967296
   . by_cases h3:mg 2147483648 b<2139095040
     . exact Or.inr ⟨23,255,-149,2147483648,2139095040,Or.inl ⟨h1,rfl,rfl,rfl,rfl,rfl⟩,by omega,h3⟩
     . exact Or.inl ⟨1,Or.inr (Or.inr ⟨23,255,-149,2147483648,2139095040,Or.inl ⟨h1,rfl,rfl,rfl,rfl,rfl⟩,by omega,by omega,rfl⟩)⟩
   . exact Or.inl ⟨1,Or.inr (Or.inl ⟨h1,by omega,rfl⟩)⟩
 . by_cases h2:z=64
   . by_cases h3:mg 9223372036854775808 b<9218868437227405312
     . exact Or.inr ⟨52,2047,-1074,9223372036854775808,9218868437227405312,Or.inr ⟨h2,rfl,rfl,rfl,rfl,rfl⟩,by omega,h3⟩
     . exact Or.inl ⟨1,Or.inr (Or.inr ⟨52,2047,-1074,9223372036854775808,9218868437227405312,Or.inr ⟨h2,rfl,rfl,rfl,rfl,rfl⟩,by omega,by omega,rfl⟩)⟩
   . exact Or.inl ⟨5,Or.inl ⟨⟨h1,h2⟩,rfl⟩⟩
theorem Bad.not0 {b:Nat}{z n:Int}(h:Bad b z n):(n == 0)=false:=by
 rcases h with ⟨_,rfl⟩ | ⟨_,_,rfl⟩ | ⟨_,_,_,_,_,_,_,_,rfl⟩ <;> rfl
theorem Sf.fs {z:Int}{f T:Nat}{L:Int}{S I:Nat}(h:Sf z f T L S I):Fs f T L/\I=T * 2 ^ f/\2 * S<=18446744073709551616/\2<=S/\S % 2=0/\1<I/\I<S:=by
 rcases h with ⟨_,rfl,rfl,rfl,rfl,rfl⟩ | ⟨_,rfl,rfl,rfl,rfl,rfl⟩
 . exact ⟨Or.inl ⟨rfl,rfl,rfl⟩,by decide,by omega,by omega,by omega,by omega,by omega⟩
 . exact ⟨Or.inr ⟨rfl,rfl,rfl⟩,by decide,by omega,by omega,by omega,by omega,by omega⟩
theorem lX {z:Int}{f T:Nat}{L:Int}{S I b:Nat}(h:Sf z f T L S I) (hb:b<2 * S) (w:World) :
 Cb 120 #[vU (b:Int),vI z] w (.tuple #[.agg #[.bool (uN S I b),vI (cl I (mg S b)),vU ((uM I f (mg S b):Nat):Int),vI (uE I f L (mg S b))],.nilIface]):=by
 rcases h with ⟨rfl,rfl,rfl,rfl,rfl,rfl⟩ | ⟨rfl,rfl,rfl,rfl,rfl,rfl⟩
 . exact aDK (by omega) w
 . exact aDL (by omega) w
theorem qJ {z:Int}{f T:Nat}{L:Int}{S I b:Nat}(h:Sf z f T L S I) (hb:b<2 * S) (w:World) :
 Cb 166 #[vU (b:Int),vI z] w (.tuple #[vI (cl I (mg S b)),.nilIface]):=by
 rcases h with ⟨rfl,rfl,rfl,rfl,rfl,rfl⟩ | ⟨rfl,rfl,rfl,rfl,rfl,rfl⟩
 . exact aCI (by omega) w
 . exact aCJ (by omega) w
theorem wI {z:Int}{f T:Nat}{L:Int}{S I:Nat}(h:Sf z f T L S I) (w:World) :
 Cb 121 #[vI z] w (.tuple #[vU 1,.nilIface]):=by
 rcases h with ⟨rfl,_⟩ | ⟨rfl,_⟩
 . exact uY w
 . exact uZ w
theorem aBx {b:Nat}{z n:Int}(h:Bad b z n) (w:World) :
 Cb 83 #[vU (b:Int),vI z] w (.tuple #[.agg #[.bool false,vI 0,vU 0,vI 0],.iface 69 (vI n)]):=by
 rcases h with ⟨h,rfl⟩ | ⟨rfl,h,rfl⟩ | ⟨f,T,L,S,I,h,hb,hi,rfl⟩
 . exact qO (fun W=>aDM h _ W) w
 . exact qO (fun W=>aCs h W) w
 . have U:=fun W=>lX h hb W
   have i1:=h.fs.2.2.2.2.2.1
   have c:cl I (mg S b)=3 \/ cl I (mg S b)=4:=by
    rcases cA I (mg S b) with q | q | q | q
    . omega
    . omega
    . exact Or.inl q.2.2
    . exact Or.inr q.2
   have c2:cl I (mg S b) ≠ 2:=by omega
   have e1:uM I f (mg S b)=0:=if_neg c2
   have e2:uE I f L (mg S b)=0:=if_neg c2
   rw [e1,e2] at U
   exact aBy (beq_eq_false_iff_ne.mpr (by omega)) (beq_eq_false_iff_ne.mpr (by omega)) U w
theorem pF {f:Nat}(hf:1<=f) (L:Int):xp f L 1=L/\xp f L 0=L/\mt f 0=0:=by
 have p:2<=2 ^ f:=by
  have:=Nat.pow_le_pow_right (n:=2) (by omega) hf
  omega
 have e:1 / 2 ^ f=0:=Nat.div_eq_of_lt (by omega)
 refine ⟨?_,?_,?_⟩
 . unfold xp;rw [e,if_pos rfl]
 . unfold xp;rw [Nat.zero_div,if_pos rfl]
 . unfold mt;rw [Nat.zero_div,if_pos rfl]
theorem Fs.one {f T:Nat}{L:Int}(h:Fs f T L):1<=f:=by rcases h with ⟨rfl,_⟩ | ⟨rfl,_⟩ <;> omega
theorem aEa {S b:Nat}(m0:mg S b ≠ 0):1<=b:=by
 apply Nat.pos_of_ne_zero
 intro c
 apply m0
 unfold mg
 rw [c,Nat.zero_mod]
theorem Fn.m {z:Int}{f T:Nat}{L:Int}{S I b:Nat}(h:Fn z f T L S I b):mg S b<T * 2 ^ f:=by rw [<- h.sf.fs.2.1];exact h.fin
theorem nT {z:Int}{f T:Nat}{L:Int}{S I b:Nat}(h:Fn z f T L S I b) (w:World) :
 Cb 83 #[vU (b:Int),vI z] w (.tuple #[.agg #[.bool (uN S I b),vI (cl I (mg S b)),vU ((mt f (mg S b):Nat):Int),vI (xp f L (mg S b))],.nilIface]):=by
 have U:=fun W=>lX h.sf h.lt W
 obtain ⟨fs,hI,_,hS,_,hI1,hIS⟩:=h.sf.fs
 have hx:=pF fs.one L
 by_cases m0:mg S b=0
 . have c1:cl I (mg S b)=1:=by rw [m0];exact lJ I
   have e1:uM I f (mg S b)=0:=if_neg (by rw [c1];decide)
   have e2:uE I f L (mg S b)=0:=if_neg (by rw [c1];decide)
   have U1:=fun W=>lX (b:=1) h.sf (by omega) W
   have g1:mg S 1=1:=Nat.mod_eq_of_lt (by omega)
   have e4:uE I f L (mg S 1)=xp f L (mg S b):=by
    rw [g1,m0,hx.2.1]
    show (if cl I 1=2 then xp f L 1 else 0)=L
    rw [if_pos (iP (by decide) hI1),hx.1]
   rw [e1,e2,c1] at U
   rw [e4] at U1
   rw [c1,show ((mt f (mg S b):Nat):Int)=0 by rw [m0,hx.2.2];rfl]
   exact zQ U (fun W=>wI h.sf W) U1 w
 . have c2:cl I (mg S b)=2:=iP m0 h.fin
   have e1:uM I f (mg S b)=mt f (mg S b):=if_pos c2
   have e2:uE I f L (mg S b)=xp f L (mg S b):=if_pos c2
   rw [e1,e2,c2] at U
   rw [c2]
   exact zP U w
theorem qR {z:Int}{f T:Nat}{L:Int}{S I b:Nat}(h:Fn z f T L S I b) {c:Bool}{k:Int}{t:ByteArray}{q:Int}(D:Dx t q (hiF f L (mg S b))) (w:World) :
 Cb 119 #[.agg #[.bool c,vI k,vU ((mt f (mg S b):Nat):Int),vI (xp f L (mg S b))]] w (dcV t q false):=by
 have fs:=h.sf.fs.1
 have x:=bR fs h.m
 have m:=dS fs (mg S b)
 refine aBH (by omega) x.1 x.2 (fun W=>?_) w
 have q:=oJ (m:=2 * mt f (mg S b)+1) (e:=xp f L (mg S b) - 1) (by omega) (by omega) (by omega) (by omega) D W
 rw [show ((2 * mt f (mg S b)+1:Nat):Int)=2 * ((mt f (mg S b):Nat):Int)+1 by omega] at q
 exact q
theorem Fn.prev {z:Int}{f T:Nat}{L:Int}{S I b:Nat}(h:Fn z f T L S I b) (m0:mg S b ≠ 0):Fn z f T L S I (b - 1)/\mg S (b - 1)+1=mg S b:=by
 obtain ⟨_,_,_,hS,_,_,hIS⟩:=h.sf.fs
 have lt:=h.lt
 have fin:=h.fin
 have e:mg S (b - 1)+1=mg S b:=by
  unfold mg at m0 ⊢
  have dm:=Nat.div_add_mod b S
  have ml:=Nat.mod_lt b (show 0<S by omega)
  have:b - 1=S * (b / S)+(b % S - 1):=by omega
  rw [this,Nat.mul_add_mod,Nat.mod_eq_of_lt (by omega)]
  omega
 exact ⟨⟨h.sf,by omega,by omega⟩,e⟩
theorem aB1 {z:Int}{f T:Nat}{L:Int}{S I b:Nat}(h:Fn z f T L S I b) (m0:mg S b ≠ 0) (w:World):Cb 141 #[vU (b:Int),vI z] w (.tuple #[vU ((b - 1:Nat):Int),.nilIface]):=by
 have b0:=aEa m0
 have lt:=h.lt
 have s2:=h.sf.fs.2.2.1
 have c2:cl I (mg S b)=2:=iP m0 h.fin
 have q:=aB2 (b:=(b:Int)) (s:=z) (c:=2) rfl rfl (by omega) (by omega) (fun W=>by have:=qJ h.sf h.lt W;rw [c2] at this;exact this) w
 rw [show (b:Int) - 1=((b - 1:Nat):Int) by omega] at q
 exact q
theorem aC3 {z:Int}{f T:Nat}{L:Int}{S I b:Nat}(h:Fn z f T L S I b) {s:ByteArray}{p:Int}(D:Dx s p (loF f L (mg S b))) (w:World) :
 Cb 118 #[vU (b:Int),vI z] w (dcV s p false):=by
 by_cases m0:mg S b=0
 . have c1:cl I (mg S b)=1:=by rw [m0];exact lJ I
   rw [m0] at D
   obtain ⟨rfl,rfl⟩:=Dx.uniq D aW
   exact zY (fun W=>aAs (fun W=>by have:=qJ h.sf h.lt W;rw [c1] at this;exact this) W) w
 . obtain ⟨g,e⟩:=Fn.prev h m0
   rw [<- e] at D
   exact zZ (fun W=>aB1 h m0 W) (fun W=>nT g W) (fun W=>qR g D W) w
theorem aCi {z:Int}{f T:Nat}{L:Int}{S I b:Nat}(h:Fn z f T L S I b) {s t:ByteArray}{p q:Int}(D:Dx s p (loF f L (mg S b))) (E:Dx t q (hiF f L (mg S b))) (w:World) :
 Cb 82 #[vU (b:Int),vI z] w (.tuple #[.agg #[.string s,vI p,.bool false,.string t,vI q,.bool false,.bool (decide (b % 2=0))],.nilIface]) :=
 aCj (by have:=h.lt;have:=h.sf.fs.2.2.1;omega) (fun W=>nT h W) (fun W=>aC3 h D W) (fun W=>qR h E W) w
theorem aD5 {z:Int}{f T:Nat}{L:Int}{S I b:Nat}(h:Fn z f T L S I b) {s:ByteArray}{p:Int}(D:Dx s p (vlF f L (mg S b))) (w:World) :
 Cb 51 #[vU (b:Int),vI z] w (.tuple #[dcV s p false,.nilIface]):=by
 have fs:=h.sf.fs.1
 have x:=bR fs h.m
 have m:=dS fs (mg S b)
 refine aD6 (fun W=>nT h W) (fun W=>oJ (by omega) (by omega) (by omega) ?_ D W) w
 by_cases m0:mg S b=0
 . right
   rw [m0,(pF fs.one L).2.1]
   rcases fs with ⟨_,_,rfl⟩ | ⟨_,_,rfl⟩ <;> omega
 . exact Or.inl (fK m0)
theorem aDW {z:Int}{f T:Nat}{L:Int}{S I b:Nat}(h:Fn z f T L S I b) {s t:ByteArray}{p q:Int}(D:Dx s p (loF f L (mg S b))) (E:Dx t q (hiF f L (mg S b))) (w:World) :
 Cb 50 #[vU (b:Int),vI z] w (.tuple #[dcV s p false,dcV t q false,.bool (decide (b % 2=0)),.nilIface]) :=
 aDX (fun W=>aCi h D E W) w
theorem Fn.has {z:Int}{f T:Nat}{L:Int}{S I b:Nat}(h:Fn z f T L S I b):(∃ s p,Dx s p (loF f L (mg S b)))/\(∃ t q,Dx t q (hiF f L (mg S b)))/\∃ u o,Dx u o (vlF f L (mg S b)):=by
 have fs:=h.sf.fs.1
 have hi:∀ k,k<T * 2 ^ f -> ∃ t q,Dx t q (hiF f L k):=fun k hk=>by
  have x:=bR fs hk
  have m:=dS fs k
  exact vV (by omega) (by omega) (by omega)
 have x:=bR fs h.m
 have m:=dS fs (mg S b)
 refine ⟨?_,hi _ h.m,vV (by omega) (by omega) (by omega)⟩
 by_cases m0:mg S b=0
 . rw [m0];exact ⟨_,_,aW⟩
 . obtain ⟨k,e⟩:∃ k,mg S b=k+1:=⟨mg S b - 1,by omega⟩
   have:=h.m
   rw [e] at this ⊢
   exact hi k (by omega)
theorem Bk.newL (W:World) (l:List Value) (T:TypeId):Bk (W.alloc (.cells l.toArray T)) W.heap.size l :=
 ⟨by simp,fun i v q=>by
  have e:=World.cell?_alloc_new (w:=W) l.toArray T i
  rw [e]
  simpa using q,fun i=>World.frozen?_alloc_new _ _ _ _⟩
theorem qS (s:ByteArray) (p:Int) (t:ByteArray) (q:Int):aE s p t q = -1 \/ aE s p t q=0 \/ aE s p t q=1:=by
 have k:∀ x y:Int,aG x y = -1 \/ aG x y=0 \/ aG x y=1:=fun x y=>by unfold aG;split <;> (try split) <;> simp
 unfold aE
 split
 . exact Or.inr (Or.inl rfl)
 . split
   . exact Or.inl rfl
   . split
     . exact Or.inr (Or.inr rfl)
     . split
       . exact Or.inl rfl
       . split
         . exact Or.inr (Or.inr rfl)
         . exact k _ _
theorem aCl {b z:Int}{n:Int}(HB:∀ W,Cb 50 #[vU b,vI z] W (.tuple #[.agg #[.string ⟨#[]⟩,vI 0,.bool false],.agg #[.string ⟨#[]⟩,vI 0,.bool false],.bool false,.iface 69 (vI n)])) (w:World) :
 Cb 28 #[vU b,vI z] w (.tuple #[.agg #[.string ⟨#[]⟩,vI 0,.bool false,.string ⟨#[]⟩,vI 0,.bool false,.bool false],.agg #[.string ⟨#[]⟩,vI 0,.bool false],.iface 69 (vI n)]):=by
 have F0:Hid (Bk ((w.alloc (.cells #[.string ⟨#[]⟩,vI 0,.bool false,.string ⟨#[]⟩,vI 0,.bool false,.bool false] 59)).alloc (.cells #[.string ⟨#[]⟩,vI 0,.bool false] 24)) (w.heap.size) [.string ⟨#[]⟩,vI 0,.bool false,.string ⟨#[]⟩,vI 0,.bool false,.bool false]/\Bk ((w.alloc (.cells #[.string ⟨#[]⟩,vI 0,.bool false,.string ⟨#[]⟩,vI 0,.bool false,.bool false] 59)).alloc (.cells #[.string ⟨#[]⟩,vI 0,.bool false] 24)) (w.heap.size+1) [.string ⟨#[]⟩,vI 0,.bool false]/\Bl w ((w.alloc (.cells #[.string ⟨#[]⟩,vI 0,.bool false,.string ⟨#[]⟩,vI 0,.bool false,.bool false] 59)).alloc (.cells #[.string ⟨#[]⟩,vI 0,.bool false] 24))):=⟨(Bk.new7 w (.string ⟨#[]⟩) (vI 0) (.bool false) (.string ⟨#[]⟩) (vI 0) (.bool false) (.bool false) 59).step (bz _ _),((by have q:=Bk.new3 (w.alloc (.cells #[.string ⟨#[]⟩,vI 0,.bool false,.string ⟨#[]⟩,vI 0,.bool false,.bool false] 59)) (.string ⟨#[]⟩) (vI 0) (.bool false) 24;simpa using q):Bk ((w.alloc (.cells #[.string ⟨#[]⟩,vI 0,.bool false,.string ⟨#[]⟩,vI 0,.bool false,.bool false] 59)).alloc (.cells #[.string ⟨#[]⟩,vI 0,.bool false] 24)) (w.heap.size+1) [.string ⟨#[]⟩,vI 0,.bool false]),(((Below.refl w.heap.size w)).alloc (Nat.le_refl _) _).alloc ((((Below.refl w.heap.size w)).alloc (Nat.le_refl _) _).size) _⟩
 go_enter Tryz.func28,Tryz.ntmps28
 go_upto_region 1 with fail
 generalize ((w.alloc (.cells #[.string ⟨#[]⟩,vI 0,.bool false,.string ⟨#[]⟩,vI 0,.bool false,.bool false] 59)).alloc (.cells #[.string ⟨#[]⟩,vI 0,.bool false] 24))=w1 at *
 go_wp2_with fail
 all_goals first | (exfalso;omega) | skip
 refine (HB _).mono ?_
 rintro o2 w2 ⟨rfl,bb⟩
 have F1:Hid (Bk w2 (w.heap.size) [.string ⟨#[]⟩,vI 0,.bool false,.string ⟨#[]⟩,vI 0,.bool false,.bool false]/\Bk w2 (w.heap.size+1) [.string ⟨#[]⟩,vI 0,.bool false]/\Bl w w2):=⟨(F0.out.1).step bb,(F0.out.2.1).step bb,(F0.out.2.2).trans (bb.mono (F0.out.2.2).size)⟩
 clear F0
 clear bb
 have lt0_2:=(F1.out.1).lt
 have lt1_2:=(F1.out.2.1).lt
 have le2:=(F1.out.2.2).size
 have F2:Hid (Bk ((w2.alloc (.cells #[.string ⟨#[]⟩,vI 0,.bool false] 24)).alloc (.cells #[.string ⟨#[]⟩,vI 0,.bool false] 24)) (w.heap.size) [.string ⟨#[]⟩,vI 0,.bool false,.string ⟨#[]⟩,vI 0,.bool false,.bool false]/\Bk ((w2.alloc (.cells #[.string ⟨#[]⟩,vI 0,.bool false] 24)).alloc (.cells #[.string ⟨#[]⟩,vI 0,.bool false] 24)) (w.heap.size+1) [.string ⟨#[]⟩,vI 0,.bool false]/\Bk ((w2.alloc (.cells #[.string ⟨#[]⟩,vI 0,.bool false] 24)).alloc (.cells #[.string ⟨#[]⟩,vI 0,.bool false] 24)) (w2.heap.size) [.string ⟨#[]⟩,vI 0,.bool false]/\Bk ((w2.alloc (.cells #[.string ⟨#[]⟩,vI 0,.bool false] 24)).alloc (.cells #[.string ⟨#[]⟩,vI 0,.bool false] 24)) (w2.heap.size+1) [.string ⟨#[]⟩,vI 0,.bool false]/\Bl w ((w2.alloc (.cells #[.string ⟨#[]⟩,vI 0,.bool false] 24)).alloc (.cells #[.string ⟨#[]⟩,vI 0,.bool false] 24))):=⟨((F1.out.1).step (bz _ _)).step (bz _ _),((F1.out.2.1).step (bz _ _)).step (bz _ _),(Bk.new3 w2 (.string ⟨#[]⟩) (vI 0) (.bool false) 24).step (bz _ _),((by have q:=Bk.new3 (w2.alloc (.cells #[.string ⟨#[]⟩,vI 0,.bool false] 24)) (.string ⟨#[]⟩) (vI 0) (.bool false) 24;simpa using q):Bk ((w2.alloc (.cells #[.string ⟨#[]⟩,vI 0,.bool false] 24)).alloc (.cells #[.string ⟨#[]⟩,vI 0,.bool false] 24)) (w2.heap.size+1) [.string ⟨#[]⟩,vI 0,.bool false]),((F1.out.2.2).alloc ((F1.out.2.2).size) _).alloc (((F1.out.2.2).alloc ((F1.out.2.2).size) _).size) _⟩
 clear F1
 go_upto_region 2 with fail
 generalize ((w2.alloc (.cells #[.string ⟨#[]⟩,vI 0,.bool false] 24)).alloc (.cells #[.string ⟨#[]⟩,vI 0,.bool false] 24))=w3 at *
 have l1_0:=F2.out.1.lt
 have a1_0_0:=F2.out.1.cell 0 _ rfl
 have f1_0_0:=F2.out.1.fz 0
 have a1_0_1:=F2.out.1.cell 1 _ rfl
 have f1_0_1:=F2.out.1.fz 1
 have a1_0_2:=F2.out.1.cell 2 _ rfl
 have f1_0_2:=F2.out.1.fz 2
 have a1_0_3:=F2.out.1.cell 3 _ rfl
 have f1_0_3:=F2.out.1.fz 3
 have a1_0_4:=F2.out.1.cell 4 _ rfl
 have f1_0_4:=F2.out.1.fz 4
 have a1_0_5:=F2.out.1.cell 5 _ rfl
 have f1_0_5:=F2.out.1.fz 5
 have a1_0_6:=F2.out.1.cell 6 _ rfl
 have f1_0_6:=F2.out.1.fz 6
 have l1_1:=F2.out.2.1.lt
 have a1_1_0:=F2.out.2.1.cell 0 _ rfl
 have f1_1_0:=F2.out.2.1.fz 0
 have a1_1_1:=F2.out.2.1.cell 1 _ rfl
 have f1_1_1:=F2.out.2.1.fz 1
 have a1_1_2:=F2.out.2.1.cell 2 _ rfl
 have f1_1_2:=F2.out.2.1.fz 2
 have l1_2:=F2.out.2.2.1.lt
 have a1_2_0:=F2.out.2.2.1.cell 0 _ rfl
 have f1_2_0:=F2.out.2.2.1.fz 0
 have a1_2_1:=F2.out.2.2.1.cell 1 _ rfl
 have f1_2_1:=F2.out.2.2.1.fz 1
 have a1_2_2:=F2.out.2.2.1.cell 2 _ rfl
 have f1_2_2:=F2.out.2.2.1.fz 2
 have l1_3:=F2.out.2.2.2.1.lt
 have a1_3_0:=F2.out.2.2.2.1.cell 0 _ rfl
 have f1_3_0:=F2.out.2.2.2.1.fz 0
 have a1_3_1:=F2.out.2.2.2.1.cell 1 _ rfl
 have f1_3_1:=F2.out.2.2.2.1.fz 1
 have a1_3_2:=F2.out.2.2.2.1.cell 2 _ rfl
 have f1_3_2:=F2.out.2.2.2.1.fz 2
 have ne1_0_1:¬ w.heap.size=w.heap.size+1:=by omega
 have ne1_0_2:¬ w.heap.size=w2.heap.size:=by omega
 have ne1_0_3:¬ w.heap.size=w2.heap.size+1:=by omega
 have ne1_1_0:¬ w.heap.size+1=w.heap.size:=by omega
 have ne1_1_2:¬ w.heap.size+1=w2.heap.size:=by omega
 have ne1_1_3:¬ w.heap.size+1=w2.heap.size+1:=by omega
 have ne1_2_0:¬ w2.heap.size=w.heap.size:=by omega
 have ne1_2_1:¬ w2.heap.size=w.heap.size+1:=by omega
 have ne1_2_3:¬ w2.heap.size=w2.heap.size+1:=by omega
 have ne1_3_0:¬ w2.heap.size+1=w.heap.size:=by omega
 have ne1_3_1:¬ w2.heap.size+1=w.heap.size+1:=by omega
 have ne1_3_2:¬ w2.heap.size+1=w2.heap.size:=by omega
 go_wp2
 refine bodyPost_ret (v:=.tuple #[.agg #[.string ⟨#[]⟩,vI 0,.bool false,.string ⟨#[]⟩,vI 0,.bool false,.bool false],.agg #[.string ⟨#[]⟩,vI 0,.bool false],.iface 69 (vI n)]) (by simp [results,Tryz.results28,go_sem,World.cell?_setCell_same,World.cell?_setCell_other, *]) rfl ⟨rfl,?_⟩
 repeat (first | refine Below.setCell ?_ (by first | exact Nat.le_refl _ | (dsimp only;omega)) _ | refine Below.alloc ?_ (by first | exact Nat.le_refl _ | omega | (simp;omega)) _ | refine Below.drew ?_)
 exact F2.out.2.2.2.2
theorem aDD {b z:Int}{s t:ByteArray}{p q:Int}{c:Bool}{u:ByteArray}{o:Int}(HB:∀ W,Cb 50 #[vU b,vI z] W (.tuple #[.agg #[.string s,vI p,.bool false],.agg #[.string t,vI q,.bool false],.bool c,.nilIface])) (HE:∀ W,Cb 51 #[vU b,vI z] W (.tuple #[.agg #[.string u,vI o,.bool false],.nilIface])) (w:World) :
 Cb 28 #[vU b,vI z] w (.tuple #[.agg #[.string s,vI p,.bool false,.string t,vI q,.bool false,.bool c],.agg #[.string u,vI o,.bool false],.nilIface]):=by
 have F0:Hid (Bk ((w.alloc (.cells #[.string ⟨#[]⟩,vI 0,.bool false,.string ⟨#[]⟩,vI 0,.bool false,.bool false] 59)).alloc (.cells #[.string ⟨#[]⟩,vI 0,.bool false] 24)) (w.heap.size) [.string ⟨#[]⟩,vI 0,.bool false,.string ⟨#[]⟩,vI 0,.bool false,.bool false]/\Bk ((w.alloc (.cells #[.string ⟨#[]⟩,vI 0,.bool false,.string ⟨#[]⟩,vI 0,.bool false,.bool false] 59)).alloc (.cells #[.string ⟨#[]⟩,vI 0,.bool false] 24)) (w.heap.size+1) [.string ⟨#[]⟩,vI 0,.bool false]/\Bl w ((w.alloc (.cells #[.string ⟨#[]⟩,vI 0,.bool false,.string ⟨#[]⟩,vI 0,.bool false,.bool false] 59)).alloc (.cells #[.string ⟨#[]⟩,vI 0,.bool false] 24))):=⟨(Bk.new7 w (.string ⟨#[]⟩) (vI 0) (.bool false) (.string ⟨#[]⟩) (vI 0) (.bool false) (.bool false) 59).step (bz _ _),((by have q:=Bk.new3 (w.alloc (.cells #[.string ⟨#[]⟩,vI 0,.bool false,.string ⟨#[]⟩,vI 0,.bool false,.bool false] 59)) (.string ⟨#[]⟩) (vI 0) (.bool false) 24;simpa using q):Bk ((w.alloc (.cells #[.string ⟨#[]⟩,vI 0,.bool false,.string ⟨#[]⟩,vI 0,.bool false,.bool false] 59)).alloc (.cells #[.string ⟨#[]⟩,vI 0,.bool false] 24)) (w.heap.size+1) [.string ⟨#[]⟩,vI 0,.bool false]),(((Below.refl w.heap.size w)).alloc (Nat.le_refl _) _).alloc ((((Below.refl w.heap.size w)).alloc (Nat.le_refl _) _).size) _⟩
 go_enter Tryz.func28,Tryz.ntmps28
 go_upto_region 1 with fail
 generalize ((w.alloc (.cells #[.string ⟨#[]⟩,vI 0,.bool false,.string ⟨#[]⟩,vI 0,.bool false,.bool false] 59)).alloc (.cells #[.string ⟨#[]⟩,vI 0,.bool false] 24))=w1 at *
 go_wp2_with fail
 all_goals first | (exfalso;omega) | skip
 refine (HB _).mono ?_
 rintro o2 w2 ⟨rfl,bb⟩
 have F1:Hid (Bk w2 (w.heap.size) [.string ⟨#[]⟩,vI 0,.bool false,.string ⟨#[]⟩,vI 0,.bool false,.bool false]/\Bk w2 (w.heap.size+1) [.string ⟨#[]⟩,vI 0,.bool false]/\Bl w w2):=⟨(F0.out.1).step bb,(F0.out.2.1).step bb,(F0.out.2.2).trans (bb.mono (F0.out.2.2).size)⟩
 clear F0
 clear bb
 have lt0_2:=(F1.out.1).lt
 have lt1_2:=(F1.out.2.1).lt
 have le2:=(F1.out.2.2).size
 have F2:Hid (Bk ((w2.alloc (.cells #[.string s,vI p,.bool false] 24)).alloc (.cells #[.string t,vI q,.bool false] 24)) (w.heap.size) [.string ⟨#[]⟩,vI 0,.bool false,.string ⟨#[]⟩,vI 0,.bool false,.bool false]/\Bk ((w2.alloc (.cells #[.string s,vI p,.bool false] 24)).alloc (.cells #[.string t,vI q,.bool false] 24)) (w.heap.size+1) [.string ⟨#[]⟩,vI 0,.bool false]/\Bk ((w2.alloc (.cells #[.string s,vI p,.bool false] 24)).alloc (.cells #[.string t,vI q,.bool false] 24)) (w2.heap.size) [.string s,vI p,.bool false]/\Bk ((w2.alloc (.cells #[.string s,vI p,.bool false] 24)).alloc (.cells #[.string t,vI q,.bool false] 24)) (w2.heap.size+1) [.string t,vI q,.bool false]/\Bl w ((w2.alloc (.cells #[.string s,vI p,.bool false] 24)).alloc (.cells #[.string t,vI q,.bool false] 24))):=⟨((F1.out.1).step (bz _ _)).step (bz _ _),((F1.out.2.1).step (bz _ _)).step (bz _ _),(Bk.new3 w2 (.string s) (vI p) (.bool false) 24).step (bz _ _),((by have q:=Bk.new3 (w2.alloc (.cells #[.string s,vI p,.bool false] 24)) (.string t) (vI q) (.bool false) 24;simpa using q):Bk ((w2.alloc (.cells #[.string s,vI p,.bool false] 24)).alloc (.cells #[.string t,vI q,.bool false] 24)) (w2.heap.size+1) [.string t,vI q,.bool false]),((F1.out.2.2).alloc ((F1.out.2.2).size) _).alloc (((F1.out.2.2).alloc ((F1.out.2.2).size) _).size) _⟩
 clear F1
 go_upto_region 2 with fail
 generalize ((w2.alloc (.cells #[.string s,vI p,.bool false] 24)).alloc (.cells #[.string t,vI q,.bool false] 24))=w3 at *
 go_wp2_with fail
 all_goals first | (exfalso;omega) | skip
 refine (HE _).mono ?_
 rintro o4 w4 ⟨rfl,bb⟩
 have F3:Hid (Bk w4 (w.heap.size) [.string ⟨#[]⟩,vI 0,.bool false,.string ⟨#[]⟩,vI 0,.bool false,.bool false]/\Bk w4 (w.heap.size+1) [.string ⟨#[]⟩,vI 0,.bool false]/\Bk w4 (w2.heap.size) [.string s,vI p,.bool false]/\Bk w4 (w2.heap.size+1) [.string t,vI q,.bool false]/\Bl w w4):=⟨(F2.out.1).step bb,(F2.out.2.1).step bb,(F2.out.2.2.1).step bb,(F2.out.2.2.2.1).step bb,(F2.out.2.2.2.2).trans (bb.mono (F2.out.2.2.2.2).size)⟩
 clear F2
 clear bb
 have lt0_4:=(F3.out.1).lt
 have lt1_4:=(F3.out.2.1).lt
 have lt2_4:=(F3.out.2.2.1).lt
 have lt3_4:=(F3.out.2.2.2.1).lt
 have le4:=(F3.out.2.2.2.2).size
 have F4:Hid (Bk (w4.alloc (.cells #[.string u,vI o,.bool false] 24)) (w.heap.size) [.string ⟨#[]⟩,vI 0,.bool false,.string ⟨#[]⟩,vI 0,.bool false,.bool false]/\Bk (w4.alloc (.cells #[.string u,vI o,.bool false] 24)) (w.heap.size+1) [.string ⟨#[]⟩,vI 0,.bool false]/\Bk (w4.alloc (.cells #[.string u,vI o,.bool false] 24)) (w2.heap.size) [.string s,vI p,.bool false]/\Bk (w4.alloc (.cells #[.string u,vI o,.bool false] 24)) (w2.heap.size+1) [.string t,vI q,.bool false]/\Bk (w4.alloc (.cells #[.string u,vI o,.bool false] 24)) (w4.heap.size) [.string u,vI o,.bool false]/\Bl w (w4.alloc (.cells #[.string u,vI o,.bool false] 24))):=⟨(F3.out.1).step (bz _ _),(F3.out.2.1).step (bz _ _),(F3.out.2.2.1).step (bz _ _),(F3.out.2.2.2.1).step (bz _ _),Bk.new3 w4 (.string u) (vI o) (.bool false) 24,(F3.out.2.2.2.2).alloc ((F3.out.2.2.2.2).size) _⟩
 clear F3
 go_upto_region 5 with fail
 generalize (w4.alloc (.cells #[.string u,vI o,.bool false] 24))=w5 at *
 have l1_0:=F4.out.1.lt
 have a1_0_0:=F4.out.1.cell 0 _ rfl
 have f1_0_0:=F4.out.1.fz 0
 have a1_0_1:=F4.out.1.cell 1 _ rfl
 have f1_0_1:=F4.out.1.fz 1
 have a1_0_2:=F4.out.1.cell 2 _ rfl
 have f1_0_2:=F4.out.1.fz 2
 have a1_0_3:=F4.out.1.cell 3 _ rfl
 have f1_0_3:=F4.out.1.fz 3
 have a1_0_4:=F4.out.1.cell 4 _ rfl
 have f1_0_4:=F4.out.1.fz 4
 have a1_0_5:=F4.out.1.cell 5 _ rfl
 have f1_0_5:=F4.out.1.fz 5
 have a1_0_6:=F4.out.1.cell 6 _ rfl
 have f1_0_6:=F4.out.1.fz 6
 have l1_1:=F4.out.2.1.lt
 have a1_1_0:=F4.out.2.1.cell 0 _ rfl
 have f1_1_0:=F4.out.2.1.fz 0
 have a1_1_1:=F4.out.2.1.cell 1 _ rfl
 have f1_1_1:=F4.out.2.1.fz 1
 have a1_1_2:=F4.out.2.1.cell 2 _ rfl
 have f1_1_2:=F4.out.2.1.fz 2
 have l1_2:=F4.out.2.2.1.lt
 have a1_2_0:=F4.out.2.2.1.cell 0 _ rfl
 have f1_2_0:=F4.out.2.2.1.fz 0
 have a1_2_1:=F4.out.2.2.1.cell 1 _ rfl
 have f1_2_1:=F4.out.2.2.1.fz 1
 have a1_2_2:=F4.out.2.2.1.cell 2 _ rfl
 have f1_2_2:=F4.out.2.2.1.fz 2
 have l1_3:=F4.out.2.2.2.1.lt
 have a1_3_0:=F4.out.2.2.2.1.cell 0 _ rfl
 have f1_3_0:=F4.out.2.2.2.1.fz 0
 have a1_3_1:=F4.out.2.2.2.1.cell 1 _ rfl
 have f1_3_1:=F4.out.2.2.2.1.fz 1
 have a1_3_2:=F4.out.2.2.2.1.cell 2 _ rfl
 have f1_3_2:=F4.out.2.2.2.1.fz 2
 have l1_4:=F4.out.2.2.2.2.1.lt
 have a1_4_0:=F4.out.2.2.2.2.1.cell 0 _ rfl
 have f1_4_0:=F4.out.2.2.2.2.1.fz 0
 have a1_4_1:=F4.out.2.2.2.2.1.cell 1 _ rfl
 have f1_4_1:=F4.out.2.2.2.2.1.fz 1
 have a1_4_2:=F4.out.2.2.2.2.1.cell 2 _ rfl
 have f1_4_2:=F4.out.2.2.2.2.1.fz 2
 have ne1_0_1:¬ w.heap.size=w.heap.size+1:=by omega
 have ne1_0_2:¬ w.heap.size=w2.heap.size:=by omega
 have ne1_0_3:¬ w.heap.size=w2.heap.size+1:=by omega
 have ne1_0_4:¬ w.heap.size=w4.heap.size:=by omega
 have ne1_1_0:¬ w.heap.size+1=w.heap.size:=by omega
 have ne1_1_2:¬ w.heap.size+1=w2.heap.size:=by omega
 have ne1_1_3:¬ w.heap.size+1=w2.heap.size+1:=by omega
 have ne1_1_4:¬ w.heap.size+1=w4.heap.size:=by omega
 have ne1_2_0:¬ w2.heap.size=w.heap.size:=by omega
 have ne1_2_1:¬ w2.heap.size=w.heap.size+1:=by omega
 have ne1_2_3:¬ w2.heap.size=w2.heap.size+1:=by omega
 have ne1_2_4:¬ w2.heap.size=w4.heap.size:=by omega
 have ne1_3_0:¬ w2.heap.size+1=w.heap.size:=by omega
 have ne1_3_1:¬ w2.heap.size+1=w.heap.size+1:=by omega
 have ne1_3_2:¬ w2.heap.size+1=w2.heap.size:=by omega
 have ne1_3_4:¬ w2.heap.size+1=w4.heap.size:=by omega
 have ne1_4_0:¬ w4.heap.size=w.heap.size:=by omega
 have ne1_4_1:¬ w4.heap.size=w.heap.size+1:=by omega
 have ne1_4_2:¬ w4.heap.size=w2.heap.size:=by omega
 have ne1_4_3:¬ w4.heap.size=w2.heap.size+1:=by omega
 go_region_held3 (fun w'=>w'.cell? ⟨w2.heap.size,0,none⟩=some (.string s)/\w'.cell? ⟨w2.heap.size,1,none⟩=some (vI p)/\w'.cell? ⟨w2.heap.size,2,none⟩=some (.bool false)/\w'.cell? ⟨w2.heap.size+1,0,none⟩=some (.string t)/\w'.cell? ⟨w2.heap.size+1,1,none⟩=some (vI q)/\w'.cell? ⟨w2.heap.size+1,2,none⟩=some (.bool false)/\w'.cell? ⟨w4.heap.size,0,none⟩=some (.string u)/\w'.cell? ⟨w4.heap.size,1,none⟩=some (vI o)/\w'.cell? ⟨w4.heap.size,2,none⟩=some (.bool false)) (simp [*,go_sem]) (fail)
 go_wp2
 refine bodyPost_ret (v:=.tuple #[.agg #[.string s,vI p,.bool false,.string t,vI q,.bool false,.bool c],.agg #[.string u,vI o,.bool false],.nilIface]) (by simp [results,Tryz.results28,go_sem,World.cell?_setCell_same,World.cell?_setCell_other, *]) rfl ⟨rfl,?_⟩
 refine Below.drew ?_
 repeat (first | refine Below.setCell ?_ (by first | exact Nat.le_refl _ | (dsimp only;omega)) _ | refine Below.alloc ?_ (by first | exact Nat.le_refl _ | omega | (simp;omega)) _ | refine Below.drew ?_)
 exact F4.out.2.2.2.2.2
theorem dU (s:ByteArray) (p:Int) (t:ByteArray) (q:Int) (W:World):(Instr.index 57 (.agg #[.string s,vI p,.bool false,.string t,vI q,.bool false]) (vI 0)).run Tryz.prog W=.ok (.agg #[.string s,vI p,.bool false]) W:=by kernel_rfl
theorem wG (s:ByteArray) (p:Int) (t:ByteArray) (q:Int) (W:World):(Instr.index 57 (.agg #[.string s,vI p,.bool false,.string t,vI q,.bool false]) (vI 1)).run Tryz.prog W=.ok (.agg #[.string t,vI q,.bool false]) W:=by kernel_rfl
theorem xS        {s t u : ByteArray} {p q o l h : Int} {c : Bool} (hl : l = -1 ∨ l = 0 ∨ l = 1) (hh : h = -1 ∨ h = 0 ∨ h = 1) (HC : ∀ W, Calls Tryz.prog 32 #[.agg #[.string u, .int .i64 o, .bool false], .agg #[.string s, .int .i64 p, .bool false]] W fun e w' => e = .returned (.tuple #[.int .i64 l, .nilIface]) ∧ Below W.heap.size W w') (HD : ∀ W, Calls Tryz.prog 32 #[.agg #[.string u, .int .i64 o, .bool false], .agg #[.string t, .int .i64 q, .bool false]] W fun e w' => e = .returned (.tuple #[.int .i64 h, .nilIface]) ∧ Below W.heap.size W w') (w : World) :
    Calls Tryz.prog 85 #[.agg #[.string s, .int .i64 p, .bool false, .string t, .int .i64 q, .bool false, .bool c], .agg #[.string u, .int .i64 o, .bool false]] w fun x w' => x = .returned (.bool (inB c l h)) ∧ Below w.heap.size w w' := by
  obtain ⟨R, hR⟩ : ∃ R, R = inB c l h := ⟨_, rfl⟩
  rw [← hR]
  have HR : Hid (R = inB c l h) := hR
  clear hR
  have F0 : Hid (Bk ((w.alloc (.cells #[.string s, .int .i64 p, .bool false, .string t, .int .i64 q, .bool false, .bool c] 59)).alloc (.cells #[.string u, .int .i64 o, .bool false] 24)) (w.heap.size) [.string s, .int .i64 p, .bool false, .string t, .int .i64 q, .bool false, .bool c] ∧ Bk ((w.alloc (.cells #[.string s, .int .i64 p, .bool false, .string t, .int .i64 q, .bool false, .bool c] 59)).alloc (.cells #[.string u, .int .i64 o, .bool false] 24)) (w.heap.size + 1) [.string u, .int .i64 o, .bool false] ∧ Below w.heap.size w ((w.alloc (.cells #[.string s, .int .i64 p, .bool false, .string t, .int .i64 q, .bool false, .bool c] 59)).alloc (.cells #[.string u, .int .i64 o, .bool false] 24))) := ⟨(Bk.new7 w (.string s) (.int .i64 p) (.bool false) (.string t) (.int .i64 q) (.bool false) (.bool c) 59).step ((Below.refl _ _).alloc (Nat.le_refl _) _), ((by have q := Bk.new3 (w.alloc (.cells #[.string s, .int .i64 p, .bool false, .string t, .int .i64 q, .bool false, .bool c] 59)) (.string u) (.int .i64 o) (.bool false) 24; simpa using q) : Bk ((w.alloc (.cells #[.string s, .int .i64 p, .bool false, .string t, .int .i64 q, .bool false, .bool c] 59)).alloc (.cells #[.string u, .int .i64 o, .bool false] 24)) (w.heap.size + 1) [.string u, .int .i64 o, .bool false]), (((Below.refl w.heap.size w)).alloc (Nat.le_refl _) _).alloc ((((Below.refl w.heap.size w)).alloc (Nat.le_refl _) _).size) _⟩
  go_enter Tryz.func85, Tryz.ntmps85
  go_upto_region 1 with fail
  generalize ((w.alloc (.cells #[.string s, .int .i64 p, .bool false, .string t, .int .i64 q, .bool false, .bool c] 59)).alloc (.cells #[.string u, .int .i64 o, .bool false] 24)) = w1 at *
  have lt0_2 := (F0.out.1).lt
  have lt1_2 := (F0.out.2.1).lt
  have le2 := (F0.out.2.2).size
  have F1 : Hid (Bk (w1.alloc (.cells #[.int .i64 1, .int .i64 (-1)] 171)) (w.heap.size) [.string s, .int .i64 p, .bool false, .string t, .int .i64 q, .bool false, .bool c] ∧ Bk (w1.alloc (.cells #[.int .i64 1, .int .i64 (-1)] 171)) (w.heap.size + 1) [.string u, .int .i64 o, .bool false] ∧ Bk (w1.alloc (.cells #[.int .i64 1, .int .i64 (-1)] 171)) (w1.heap.size) [.int .i64 1, .int .i64 (-1)] ∧ Below w.heap.size w (w1.alloc (.cells #[.int .i64 1, .int .i64 (-1)] 171))) := ⟨(F0.out.1).step ((Below.refl _ _).alloc (Nat.le_refl _) _), (F0.out.2.1).step ((Below.refl _ _).alloc (Nat.le_refl _) _), Bk.newL w1 [.int .i64 1, .int .i64 (-1)] 171, (F0.out.2.2).alloc ((F0.out.2.2).size) _⟩
  clear F0
  go_upto_region 2 with fail
  generalize (w1.alloc (.cells #[.int .i64 1, .int .i64 (-1)] 171)) = w2 at *
  have l1_0 := F1.out.1.lt
  have a1_0_0 := F1.out.1.cell 0 _ rfl
  have f1_0_0 := F1.out.1.fz 0
  have a1_0_1 := F1.out.1.cell 1 _ rfl
  have f1_0_1 := F1.out.1.fz 1
  have a1_0_2 := F1.out.1.cell 2 _ rfl
  have f1_0_2 := F1.out.1.fz 2
  have a1_0_3 := F1.out.1.cell 3 _ rfl
  have f1_0_3 := F1.out.1.fz 3
  have a1_0_4 := F1.out.1.cell 4 _ rfl
  have f1_0_4 := F1.out.1.fz 4
  have a1_0_5 := F1.out.1.cell 5 _ rfl
  have f1_0_5 := F1.out.1.fz 5
  have a1_0_6 := F1.out.1.cell 6 _ rfl
  have f1_0_6 := F1.out.1.fz 6
  have l1_1 := F1.out.2.1.lt
  have a1_1_0 := F1.out.2.1.cell 0 _ rfl
  have f1_1_0 := F1.out.2.1.fz 0
  have a1_1_1 := F1.out.2.1.cell 1 _ rfl
  have f1_1_1 := F1.out.2.1.fz 1
  have a1_1_2 := F1.out.2.1.cell 2 _ rfl
  have f1_1_2 := F1.out.2.1.fz 2
  have l1_2 := F1.out.2.2.1.lt
  have a1_2_0 := F1.out.2.2.1.cell 0 _ rfl
  have f1_2_0 := F1.out.2.2.1.fz 0
  have a1_2_1 := F1.out.2.2.1.cell 1 _ rfl
  have f1_2_1 := F1.out.2.2.1.fz 1
  have ne1_0_1 : ¬ w.heap.size = w.heap.size + 1 := by omega
  have ne1_0_2 : ¬ w.heap.size = w1.heap.size := by omega
  have ne1_1_0 : ¬ w.heap.size + 1 = w.heap.size := by omega
  have ne1_1_2 : ¬ w.heap.size + 1 = w1.heap.size := by omega
  have ne1_2_0 : ¬ w1.heap.size = w.heap.size := by omega
  have ne1_2_1 : ¬ w1.heap.size = w.heap.size + 1 := by omega
  go_wp2
  have IB : Hid (Bk w2 (w.heap.size) [.string s, .int .i64 p, .bool false, .string t, .int .i64 q, .bool false, .bool c] ∧ Bk w2 (w.heap.size + 1) [.string u, .int .i64 o, .bool false] ∧ Bk w2 (w1.heap.size) [.int .i64 1, .int .i64 (-1)] ∧ Below w.heap.size w w2) := F1.out
  clear l1_0 a1_0_0 f1_0_0 a1_0_1 f1_0_1 a1_0_2 f1_0_2 a1_0_3 f1_0_3 a1_0_4 f1_0_4 a1_0_5 f1_0_5 a1_0_6 f1_0_6 l1_1 a1_1_0 f1_1_0 a1_1_1 f1_1_1 a1_1_2 f1_1_2 l1_2 a1_2_0 f1_2_0 a1_2_1 f1_2_1
  go_loopw [13] (fun iv wr => ∃ k : Nat, iv = .int .i64 (k : Int) ∧ k ≤ 2 ∧ Hid (Bk wr (w.heap.size) [.string s, .int .i64 p, .bool false, .string t, .int .i64 q, .bool false, .bool c] ∧ Bk wr (w.heap.size + 1) [.string u, .int .i64 o, .bool false] ∧ Bk wr (w1.heap.size) [.int .i64 1, .int .i64 (-1)] ∧ Below w.heap.size w wr) ∧ Hid ((1 ≤ k → (l = 1 ∨ (l = 0 ∧ c = true))) ∧ (2 ≤ k → (h = -1 ∨ (h = 0 ∧ c = true))))) (fun iv _ => 2 - (intOf iv).toNat)
  case atStart => exact ⟨0, rfl, by omega, IB.out, fun a => absurd a (by omega), fun a => absurd a (by omega)⟩
  case round =>
    obtain ⟨k, rfl, hk, HB, HS⟩ := hrel
    clear IB F1
    rcases (by omega : k = 0 ∨ k = 1 ∨ k = 2) with rfl | rfl | rfl
    · have F49 := HB
      clear HB
      have ix := dU        s p t q
      have lt0_3 := (F49.out.1).lt
      have lt1_3 := (F49.out.2.1).lt
      have lt2_3 := (F49.out.2.2.1).lt
      have le3 := (F49.out.2.2.2).size
      have F50 : Hid (Bk (wr.alloc (.cells #[.string s, .int .i64 p, .bool false] 24)) (w.heap.size) [.string s, .int .i64 p, .bool false, .string t, .int .i64 q, .bool false, .bool c] ∧ Bk (wr.alloc (.cells #[.string s, .int .i64 p, .bool false] 24)) (w.heap.size + 1) [.string u, .int .i64 o, .bool false] ∧ Bk (wr.alloc (.cells #[.string s, .int .i64 p, .bool false] 24)) (w1.heap.size) [.int .i64 1, .int .i64 (-1)] ∧ Bk (wr.alloc (.cells #[.string s, .int .i64 p, .bool false] 24)) (wr.heap.size) [.string s, .int .i64 p, .bool false] ∧ Below w.heap.size w (wr.alloc (.cells #[.string s, .int .i64 p, .bool false] 24))) := ⟨(F49.out.1).step ((Below.refl _ _).alloc (Nat.le_refl _) _), (F49.out.2.1).step ((Below.refl _ _).alloc (Nat.le_refl _) _), (F49.out.2.2.1).step ((Below.refl _ _).alloc (Nat.le_refl _) _), Bk.new3 wr (.string s) (.int .i64 p) (.bool false) 24, (F49.out.2.2.2).alloc ((F49.out.2.2.2).size) _⟩
      clear F49
      go_upto_region 5 with fail
      generalize (wr.alloc (.cells #[.string s, .int .i64 p, .bool false] 24)) = w21 at *
      have l1_0 := F50.out.1.lt
      have a1_0_0 := F50.out.1.cell 0 _ rfl
      have f1_0_0 := F50.out.1.fz 0
      have a1_0_1 := F50.out.1.cell 1 _ rfl
      have f1_0_1 := F50.out.1.fz 1
      have a1_0_2 := F50.out.1.cell 2 _ rfl
      have f1_0_2 := F50.out.1.fz 2
      have a1_0_3 := F50.out.1.cell 3 _ rfl
      have f1_0_3 := F50.out.1.fz 3
      have a1_0_4 := F50.out.1.cell 4 _ rfl
      have f1_0_4 := F50.out.1.fz 4
      have a1_0_5 := F50.out.1.cell 5 _ rfl
      have f1_0_5 := F50.out.1.fz 5
      have a1_0_6 := F50.out.1.cell 6 _ rfl
      have f1_0_6 := F50.out.1.fz 6
      have l1_1 := F50.out.2.1.lt
      have a1_1_0 := F50.out.2.1.cell 0 _ rfl
      have f1_1_0 := F50.out.2.1.fz 0
      have a1_1_1 := F50.out.2.1.cell 1 _ rfl
      have f1_1_1 := F50.out.2.1.fz 1
      have a1_1_2 := F50.out.2.1.cell 2 _ rfl
      have f1_1_2 := F50.out.2.1.fz 2
      have l1_2 := F50.out.2.2.1.lt
      have a1_2_0 := F50.out.2.2.1.cell 0 _ rfl
      have f1_2_0 := F50.out.2.2.1.fz 0
      have a1_2_1 := F50.out.2.2.1.cell 1 _ rfl
      have f1_2_1 := F50.out.2.2.1.fz 1
      have l1_3 := F50.out.2.2.2.1.lt
      have a1_3_0 := F50.out.2.2.2.1.cell 0 _ rfl
      have f1_3_0 := F50.out.2.2.2.1.fz 0
      have a1_3_1 := F50.out.2.2.2.1.cell 1 _ rfl
      have f1_3_1 := F50.out.2.2.2.1.fz 1
      have a1_3_2 := F50.out.2.2.2.1.cell 2 _ rfl
      have f1_3_2 := F50.out.2.2.2.1.fz 2
      have ne1_0_1 : ¬ w.heap.size = w.heap.size + 1 := by omega
      have ne1_0_2 : ¬ w.heap.size = w1.heap.size := by omega
      have ne1_0_3 : ¬ w.heap.size = wr.heap.size := by omega
      have ne1_1_0 : ¬ w.heap.size + 1 = w.heap.size := by omega
      have ne1_1_2 : ¬ w.heap.size + 1 = w1.heap.size := by omega
      have ne1_1_3 : ¬ w.heap.size + 1 = wr.heap.size := by omega
      have ne1_2_0 : ¬ w1.heap.size = w.heap.size := by omega
      have ne1_2_1 : ¬ w1.heap.size = w.heap.size + 1 := by omega
      have ne1_2_3 : ¬ w1.heap.size = wr.heap.size := by omega
      have ne1_3_0 : ¬ wr.heap.size = w.heap.size := by omega
      have ne1_3_1 : ¬ wr.heap.size = w.heap.size + 1 := by omega
      have ne1_3_2 : ¬ wr.heap.size = w1.heap.size := by omega
      go_wp2_with fail
      all_goals first | (exfalso; omega) | skip
      refine (HC _).mono ?_
      rintro o22 w22 ⟨rfl, bb⟩
      have F51 : Hid (Bk w22 (w.heap.size) [.string s, .int .i64 p, .bool false, .string t, .int .i64 q, .bool false, .bool c] ∧ Bk w22 (w.heap.size + 1) [.string u, .int .i64 o, .bool false] ∧ Bk w22 (w1.heap.size) [.int .i64 1, .int .i64 (-1)] ∧ Bk w22 (wr.heap.size) [.string s, .int .i64 p, .bool false] ∧ Below w.heap.size w w22) := ⟨(F50.out.1).step bb, (F50.out.2.1).step bb, (F50.out.2.2.1).step bb, (F50.out.2.2.2.1).step bb, (F50.out.2.2.2.2).trans (bb.mono (F50.out.2.2.2.2).size)⟩
      clear F50
      clear bb
      clear l1_0 a1_0_0 f1_0_0 a1_0_1 f1_0_1 a1_0_2 f1_0_2 a1_0_3 f1_0_3 a1_0_4 f1_0_4 a1_0_5 f1_0_5 a1_0_6 f1_0_6 l1_1 a1_1_0 f1_1_0 a1_1_1 f1_1_1 a1_1_2 f1_1_2 l1_2 a1_2_0 f1_2_0 a1_2_1 f1_2_1 l1_3 a1_3_0 f1_3_0 a1_3_1 f1_3_1 a1_3_2 f1_3_2
      have l2_0 := F51.out.1.lt
      have a2_0_0 := F51.out.1.cell 0 _ rfl
      have f2_0_0 := F51.out.1.fz 0
      have a2_0_1 := F51.out.1.cell 1 _ rfl
      have f2_0_1 := F51.out.1.fz 1
      have a2_0_2 := F51.out.1.cell 2 _ rfl
      have f2_0_2 := F51.out.1.fz 2
      have a2_0_3 := F51.out.1.cell 3 _ rfl
      have f2_0_3 := F51.out.1.fz 3
      have a2_0_4 := F51.out.1.cell 4 _ rfl
      have f2_0_4 := F51.out.1.fz 4
      have a2_0_5 := F51.out.1.cell 5 _ rfl
      have f2_0_5 := F51.out.1.fz 5
      have a2_0_6 := F51.out.1.cell 6 _ rfl
      have f2_0_6 := F51.out.1.fz 6
      have l2_1 := F51.out.2.1.lt
      have a2_1_0 := F51.out.2.1.cell 0 _ rfl
      have f2_1_0 := F51.out.2.1.fz 0
      have a2_1_1 := F51.out.2.1.cell 1 _ rfl
      have f2_1_1 := F51.out.2.1.fz 1
      have a2_1_2 := F51.out.2.1.cell 2 _ rfl
      have f2_1_2 := F51.out.2.1.fz 2
      have l2_2 := F51.out.2.2.1.lt
      have a2_2_0 := F51.out.2.2.1.cell 0 _ rfl
      have f2_2_0 := F51.out.2.2.1.fz 0
      have a2_2_1 := F51.out.2.2.1.cell 1 _ rfl
      have f2_2_1 := F51.out.2.2.1.fz 1
      have l2_3 := F51.out.2.2.2.1.lt
      have a2_3_0 := F51.out.2.2.2.1.cell 0 _ rfl
      have f2_3_0 := F51.out.2.2.2.1.fz 0
      have a2_3_1 := F51.out.2.2.2.1.cell 1 _ rfl
      have f2_3_1 := F51.out.2.2.2.1.fz 1
      have a2_3_2 := F51.out.2.2.2.1.cell 2 _ rfl
      have f2_3_2 := F51.out.2.2.2.1.fz 2
      have ne2_0_1 : ¬ w.heap.size = w.heap.size + 1 := by omega
      have ne2_0_2 : ¬ w.heap.size = w1.heap.size := by omega
      have ne2_0_3 : ¬ w.heap.size = wr.heap.size := by omega
      have ne2_1_0 : ¬ w.heap.size + 1 = w.heap.size := by omega
      have ne2_1_2 : ¬ w.heap.size + 1 = w1.heap.size := by omega
      have ne2_1_3 : ¬ w.heap.size + 1 = wr.heap.size := by omega
      have ne2_2_0 : ¬ w1.heap.size = w.heap.size := by omega
      have ne2_2_1 : ¬ w1.heap.size = w.heap.size + 1 := by omega
      have ne2_2_3 : ¬ w1.heap.size = wr.heap.size := by omega
      have ne2_3_0 : ¬ wr.heap.size = w.heap.size := by omega
      have ne2_3_1 : ¬ wr.heap.size = w.heap.size + 1 := by omega
      have ne2_3_2 : ¬ wr.heap.size = w1.heap.size := by omega
      by_cases c1 : l = 1
      · subst l
        go_wp2
        go_roundw
        case rel => exact ⟨1, by first | rfl | go_num, by omega, ⟨F51.out.1, F51.out.2.1, F51.out.2.2.1, F51.out.2.2.2.2⟩, fun _ => by simp, fun a => absurd a (by omega)⟩
        case measure => simp [intOf]
      · by_cases c2 : l = 0
        · subst l
          cases c with
          | true =>
            go_wp2
            go_roundw
            case rel => exact ⟨1, by first | rfl | go_num, by omega, ⟨F51.out.1, F51.out.2.1, F51.out.2.2.1, F51.out.2.2.2.2⟩, fun _ => by simp, fun a => absurd a (by omega)⟩
            case measure => simp [intOf]
          | false =>
            have e : R = false := by
              rw [HR.out]
              have := HS.out.1
              rcases hh with rfl | rfl | rfl <;> simp [inB] <;> omega
            go_wp2
            go_ret
            exact ⟨by rw [e]; rfl, F51.out.2.2.2.2⟩
        · have e3 : l = -1 := by omega
          subst l
          have e : R = false := by
            rw [HR.out]
            have := HS.out.1
            cases c <;> rcases hh with rfl | rfl | rfl <;> simp [inB] <;> omega
          go_wp2
          go_ret
          exact ⟨by rw [e]; rfl, F51.out.2.2.2.2⟩
    · have F59 := HB
      clear HB
      have ix := wG        s p t q
      have lt0_3 := (F59.out.1).lt
      have lt1_3 := (F59.out.2.1).lt
      have lt2_3 := (F59.out.2.2.1).lt
      have le3 := (F59.out.2.2.2).size
      have F60 : Hid (Bk (wr.alloc (.cells #[.string t, .int .i64 q, .bool false] 24)) (w.heap.size) [.string s, .int .i64 p, .bool false, .string t, .int .i64 q, .bool false, .bool c] ∧ Bk (wr.alloc (.cells #[.string t, .int .i64 q, .bool false] 24)) (w.heap.size + 1) [.string u, .int .i64 o, .bool false] ∧ Bk (wr.alloc (.cells #[.string t, .int .i64 q, .bool false] 24)) (w1.heap.size) [.int .i64 1, .int .i64 (-1)] ∧ Bk (wr.alloc (.cells #[.string t, .int .i64 q, .bool false] 24)) (wr.heap.size) [.string t, .int .i64 q, .bool false] ∧ Below w.heap.size w (wr.alloc (.cells #[.string t, .int .i64 q, .bool false] 24))) := ⟨(F59.out.1).step ((Below.refl _ _).alloc (Nat.le_refl _) _), (F59.out.2.1).step ((Below.refl _ _).alloc (Nat.le_refl _) _), (F59.out.2.2.1).step ((Below.refl _ _).alloc (Nat.le_refl _) _), Bk.new3 wr (.string t) (.int .i64 q) (.bool false) 24, (F59.out.2.2.2).alloc ((F59.out.2.2.2).size) _⟩
      clear F59
      go_upto_region 5 with fail
      generalize (wr.alloc (.cells #[.string t, .int .i64 q, .bool false] 24)) = w31 at *
      have l1_0 := F60.out.1.lt
      have a1_0_0 := F60.out.1.cell 0 _ rfl
      have f1_0_0 := F60.out.1.fz 0
      have a1_0_1 := F60.out.1.cell 1 _ rfl
      have f1_0_1 := F60.out.1.fz 1
      have a1_0_2 := F60.out.1.cell 2 _ rfl
      have f1_0_2 := F60.out.1.fz 2
      have a1_0_3 := F60.out.1.cell 3 _ rfl
      have f1_0_3 := F60.out.1.fz 3
      have a1_0_4 := F60.out.1.cell 4 _ rfl
      have f1_0_4 := F60.out.1.fz 4
      have a1_0_5 := F60.out.1.cell 5 _ rfl
      have f1_0_5 := F60.out.1.fz 5
      have a1_0_6 := F60.out.1.cell 6 _ rfl
      have f1_0_6 := F60.out.1.fz 6
      have l1_1 := F60.out.2.1.lt
      have a1_1_0 := F60.out.2.1.cell 0 _ rfl
      have f1_1_0 := F60.out.2.1.fz 0
      have a1_1_1 := F60.out.2.1.cell 1 _ rfl
      have f1_1_1 := F60.out.2.1.fz 1
      have a1_1_2 := F60.out.2.1.cell 2 _ rfl
      have f1_1_2 := F60.out.2.1.fz 2
      have l1_2 := F60.out.2.2.1.lt
      have a1_2_0 := F60.out.2.2.1.cell 0 _ rfl
      have f1_2_0 := F60.out.2.2.1.fz 0
      have a1_2_1 := F60.out.2.2.1.cell 1 _ rfl
      have f1_2_1 := F60.out.2.2.1.fz 1
      have l1_3 := F60.out.2.2.2.1.lt
      have a1_3_0 := F60.out.2.2.2.1.cell 0 _ rfl
      have f1_3_0 := F60.out.2.2.2.1.fz 0
      have a1_3_1 := F60.out.2.2.2.1.cell 1 _ rfl
      have f1_3_1 := F60.out.2.2.2.1.fz 1
      have a1_3_2 := F60.out.2.2.2.1.cell 2 _ rfl
      have f1_3_2 := F60.out.2.2.2.1.fz 2
      have ne1_0_1 : ¬ w.heap.size = w.heap.size + 1 := by omega
      have ne1_0_2 : ¬ w.heap.size = w1.heap.size := by omega
      have ne1_0_3 : ¬ w.heap.size = wr.heap.size := by omega
      have ne1_1_0 : ¬ w.heap.size + 1 = w.heap.size := by omega
      have ne1_1_2 : ¬ w.heap.size + 1 = w1.heap.size := by omega
      have ne1_1_3 : ¬ w.heap.size + 1 = wr.heap.size := by omega
      have ne1_2_0 : ¬ w1.heap.size = w.heap.size := by omega
      have ne1_2_1 : ¬ w1.heap.size = w.heap.size + 1 := by omega
      have ne1_2_3 : ¬ w1.heap.size = wr.heap.size := by omega
      have ne1_3_0 : ¬ wr.heap.size = w.heap.size := by omega
      have ne1_3_1 : ¬ wr.heap.size = w.heap.size + 1 := by omega
      have ne1_3_2 : ¬ wr.heap.size = w1.heap.size := by omega
      go_wp2_with fail
      all_goals first | (exfalso; omega) | skip
      refine (HD _).mono ?_
      rintro o32 w32 ⟨rfl, bb⟩
      have F61 : Hid (Bk w32 (w.heap.size) [.string s, .int .i64 p, .bool false, .string t, .int .i64 q, .bool false, .bool c] ∧ Bk w32 (w.heap.size + 1) [.string u, .int .i64 o, .bool false] ∧ Bk w32 (w1.heap.size) [.int .i64 1, .int .i64 (-1)] ∧ Bk w32 (wr.heap.size) [.string t, .int .i64 q, .bool false] ∧ Below w.heap.size w w32) := ⟨(F60.out.1).step bb, (F60.out.2.1).step bb, (F60.out.2.2.1).step bb, (F60.out.2.2.2.1).step bb, (F60.out.2.2.2.2).trans (bb.mono (F60.out.2.2.2.2).size)⟩
      clear F60
      clear bb
      clear l1_0 a1_0_0 f1_0_0 a1_0_1 f1_0_1 a1_0_2 f1_0_2 a1_0_3 f1_0_3 a1_0_4 f1_0_4 a1_0_5 f1_0_5 a1_0_6 f1_0_6 l1_1 a1_1_0 f1_1_0 a1_1_1 f1_1_1 a1_1_2 f1_1_2 l1_2 a1_2_0 f1_2_0 a1_2_1 f1_2_1 l1_3 a1_3_0 f1_3_0 a1_3_1 f1_3_1 a1_3_2 f1_3_2
      have l2_0 := F61.out.1.lt
      have a2_0_0 := F61.out.1.cell 0 _ rfl
      have f2_0_0 := F61.out.1.fz 0
      have a2_0_1 := F61.out.1.cell 1 _ rfl
      have f2_0_1 := F61.out.1.fz 1
      have a2_0_2 := F61.out.1.cell 2 _ rfl
      have f2_0_2 := F61.out.1.fz 2
      have a2_0_3 := F61.out.1.cell 3 _ rfl
      have f2_0_3 := F61.out.1.fz 3
      have a2_0_4 := F61.out.1.cell 4 _ rfl
      have f2_0_4 := F61.out.1.fz 4
      have a2_0_5 := F61.out.1.cell 5 _ rfl
      have f2_0_5 := F61.out.1.fz 5
      have a2_0_6 := F61.out.1.cell 6 _ rfl
      have f2_0_6 := F61.out.1.fz 6
      have l2_1 := F61.out.2.1.lt
      have a2_1_0 := F61.out.2.1.cell 0 _ rfl
      have f2_1_0 := F61.out.2.1.fz 0
      have a2_1_1 := F61.out.2.1.cell 1 _ rfl
      have f2_1_1 := F61.out.2.1.fz 1
      have a2_1_2 := F61.out.2.1.cell 2 _ rfl
      have f2_1_2 := F61.out.2.1.fz 2
      have l2_2 := F61.out.2.2.1.lt
      have a2_2_0 := F61.out.2.2.1.cell 0 _ rfl
      have f2_2_0 := F61.out.2.2.1.fz 0
      have a2_2_1 := F61.out.2.2.1.cell 1 _ rfl
      have f2_2_1 := F61.out.2.2.1.fz 1
      have l2_3 := F61.out.2.2.2.1.lt
      have a2_3_0 := F61.out.2.2.2.1.cell 0 _ rfl
      have f2_3_0 := F61.out.2.2.2.1.fz 0
      have a2_3_1 := F61.out.2.2.2.1.cell 1 _ rfl
      have f2_3_1 := F61.out.2.2.2.1.fz 1
      have a2_3_2 := F61.out.2.2.2.1.cell 2 _ rfl
      have f2_3_2 := F61.out.2.2.2.1.fz 2
      have ne2_0_1 : ¬ w.heap.size = w.heap.size + 1 := by omega
      have ne2_0_2 : ¬ w.heap.size = w1.heap.size := by omega
      have ne2_0_3 : ¬ w.heap.size = wr.heap.size := by omega
      have ne2_1_0 : ¬ w.heap.size + 1 = w.heap.size := by omega
      have ne2_1_2 : ¬ w.heap.size + 1 = w1.heap.size := by omega
      have ne2_1_3 : ¬ w.heap.size + 1 = wr.heap.size := by omega
      have ne2_2_0 : ¬ w1.heap.size = w.heap.size := by omega
      have ne2_2_1 : ¬ w1.heap.size = w.heap.size + 1 := by omega
      have ne2_2_3 : ¬ w1.heap.size = wr.heap.size := by omega
      have ne2_3_0 : ¬ wr.heap.size = w.heap.size := by omega
      have ne2_3_1 : ¬ wr.heap.size = w.heap.size + 1 := by omega
      have ne2_3_2 : ¬ wr.heap.size = w1.heap.size := by omega
      by_cases c1 : h = (-1)
      · subst h
        go_wp2
        go_roundw
        case rel => exact ⟨2, by first | rfl | go_num, by omega, ⟨F61.out.1, F61.out.2.1, F61.out.2.2.1, F61.out.2.2.2.2⟩, fun _ => (by have := HS.out.1 (Nat.le_refl 1); simp_all), fun _ => by simp⟩
        case measure => simp [intOf]
      · by_cases c2 : h = 0
        · subst h
          cases c with
          | true =>
            go_wp2
            go_roundw
            case rel => exact ⟨2, by first | rfl | go_num, by omega, ⟨F61.out.1, F61.out.2.1, F61.out.2.2.1, F61.out.2.2.2.2⟩, fun _ => (by have := HS.out.1 (Nat.le_refl 1); simp_all), fun _ => by simp⟩
            case measure => simp [intOf]
          | false =>
            have e : R = false := by
              rw [HR.out]
              have := HS.out.1
              rcases hl with rfl | rfl | rfl <;> simp [inB] <;> omega
            go_wp2
            go_ret
            exact ⟨by rw [e]; rfl, F61.out.2.2.2.2⟩
        · have e3 : h = 1 := by omega
          subst h
          have e : R = false := by
            rw [HR.out]
            have := HS.out.1
            cases c <;> rcases hl with rfl | rfl | rfl <;> simp [inB] <;> omega
          go_wp2
          go_ret
          exact ⟨by rw [e]; rfl, F61.out.2.2.2.2⟩
    · have e : R = true := by
        rw [HR.out]
        have a1 := HS.out.1 (by omega)
        have a2 := HS.out.2 (by omega)
        rcases a1 with rfl | ⟨rfl, rfl⟩ <;> rcases a2 with rfl | ⟨rfl, a3⟩ <;> (try subst a3) <;> (try cases c) <;> rfl
      go_wp2
      go_ret
      exact ⟨by rw [e]; rfl, HB.out.2.2.2⟩
abbrev Dp:=ByteArray × Int
structure DRow (W:World) (a:Nat) (l:List Dp):Prop where
 lt:a<W.heap.size
 cell:∀ i d,l[i]?=some d -> W.cell? ⟨a,i * 3,none⟩=some (.string d.1)/\W.cell? ⟨a,i * 3+1,none⟩=some (vI d.2)/\W.cell? ⟨a,i * 3+2,none⟩=some (.bool false)
theorem DRow.step {W W':World}{a:Nat}{l:List Dp}(h:DRow W a l) (hb:Bl W W'):DRow W' a l :=
 ⟨Nat.lt_of_lt_of_le h.lt hb.size,fun i d q=>by
  obtain ⟨x,y,z⟩:=h.cell i d q
  exact ⟨(hb.cell (p:=⟨a,i * 3,none⟩) h.lt).trans x,(hb.cell (p:=⟨a,i * 3+1,none⟩) h.lt).trans y,(hb.cell (p:=⟨a,i * 3+2,none⟩) h.lt).trans z⟩⟩
theorem DRow.new1 (W:World) (d:Dp) (T:TypeId):DRow (W.alloc (.cells #[.string d.1,vI d.2,.bool false] T)) W.heap.size [d] :=
 ⟨by simp,fun i e q=>by
  match i,q with
  | 0,q=>cases q;simp
  | n+1,q=>simp at q⟩
theorem DRow.new2 (W:World) (d d':Dp) (T:TypeId):DRow (W.alloc (.cells #[.string d.1,vI d.2,.bool false,.string d'.1,vI d'.2,.bool false] T)) W.heap.size [d,d'] :=
 ⟨by simp,fun i e q=>by
  match i,q with
  | 0,q=>cases q;simp
  | 1,q=>cases q;simp
  | n+2,q=>simp at q⟩
def aX    (hb : Dp → Bool) (cand : Nat → List Dp) : Nat → Nat → Option Dp
  | _, 0 => none
  | n, k + 1 => match (cand n).find? hb with
    | some d => some d
    | none => aX    hb cand (n + 1) k
def fG:Option Dp -> Value
 | none=>.tuple #[dcV ⟨#[]⟩ 0 false,.bool false]
 | some d=>.tuple #[dcV d.1 d.2 false,.bool true]
def hdB (c:Bool) (s:ByteArray) (p:Int) (t:ByteArray) (q:Int) (d:Dp):Bool:=inB c (aE d.1 d.2 s p) (aE d.1 d.2 t q)
theorem oW {s t u:ByteArray}{p q o:Int}{c:Bool}(hs:VD s p false) (ht:VD t q false) (hu:VD u o false) (w:World) :
 Cb 85 #[.agg #[.string s,vI p,.bool false,.string t,vI q,.bool false,.bool c],.agg #[.string u,vI o,.bool false]] w (.bool (hdB c s p t q (u,o))) :=
 xS (qS _ _ _ _) (qS _ _ _ _) (fun W=>mY hu hs W) (fun W=>mY hu ht W) w
theorem mD {hb:Dp -> Bool}{l:List Dp}{j:Nat}{d:Dp}(h:l[j]?=some d):(l.drop j).find? hb=if hb d then some d else (l.drop (j+1)).find? hb:=by
 obtain ⟨hj,e⟩:=List.getElem?_eq_some_iff.1 h
 rw [List.drop_eq_getElem_cons hj,e,List.find?_cons]
 cases hb d <;> rfl
theorem xQ        {capv : Value} {J : World → Prop} (hJ : ∀ W W', J W → Below W.heap.size W W' → J W') {s t : ByteArray} {p q : Int} {c : Bool} (hs : VD s p false) (ht : VD t q false) {few many len : Nat} (fm : few ≤ many) (hm : many ≤ 800) (hl : len ≤ 2) {cand : Nat → List Dp} (hc : ∀ n, (cand n).length = len) (hv : ∀ n, few ≤ n → n ≤ many → ∀ d ∈ cand n, VD d.1 d.2 false)
    (HT : ∀ n, few ≤ n → n ≤ many → ∀ W, J W → Calls Tryz.prog 53 #[.int .i64 (n : Int), capv] W fun e w' => ∃ a : Nat, e = .returned (.slice (some ⟨a, 0, none⟩) len len) ∧ DRow w' a (cand n) ∧ Below W.heap.size W w') (w : World) (j0 : J w) :
    Calls Tryz.prog 52 #[.agg #[.string s, .int .i64 p, .bool false, .string t, .int .i64 q, .bool false, .bool c], .int .i64 (few : Int), .int .i64 (many : Int), .func (.func 53) #[] #[capv]] w fun x w' => x = .returned (fG   (aX    (hdB c s p t q) cand few (many + 1 - few))) ∧ Below w.heap.size w w' := by
  obtain ⟨R, hR⟩ : ∃ R, R = aX    (hdB c s p t q) cand few (many + 1 - few) := ⟨_, rfl⟩
  rw [← hR]
  have HR : Hid (aX    (hdB c s p t q) cand few (many + 1 - few) = R) := hR.symm
  have HJ : Hid ((∀ W W', J W → Below W.heap.size W W' → J W') ∧ J w) := ⟨hJ, j0⟩
  have HV : Hid (∀ n, few ≤ n → n ≤ many → ∀ d ∈ cand n, VD d.1 d.2 false) := hv
  have HL : Hid (∀ n, (cand n).length = len) := hc
  have HVD : Hid (VD s p false ∧ VD t q false) := ⟨hs, ht⟩
  have HTT : Hid (∀ n, few ≤ n → n ≤ many → ∀ W, J W → Calls Tryz.prog 53 #[.int .i64 (n : Int), capv] W fun e w' => ∃ a : Nat, e = .returned (.slice (some ⟨a, 0, none⟩) len len) ∧ DRow w' a (cand n) ∧ Below W.heap.size W w') := HT
  clear hR hJ j0 hv hc hs ht HT
  have F0 : Hid (Bk (((w.alloc (.cells #[.string s, .int .i64 p, .bool false, .string t, .int .i64 q, .bool false, .bool c] 59)).alloc (.cells #[.string ⟨#[]⟩, .int .i64 0, .bool false] 24)).alloc (.cells #[.string ⟨#[]⟩, .int .i64 0, .bool false] 24)) (w.heap.size) [.string s, .int .i64 p, .bool false, .string t, .int .i64 q, .bool false, .bool c] ∧ Bk (((w.alloc (.cells #[.string s, .int .i64 p, .bool false, .string t, .int .i64 q, .bool false, .bool c] 59)).alloc (.cells #[.string ⟨#[]⟩, .int .i64 0, .bool false] 24)).alloc (.cells #[.string ⟨#[]⟩, .int .i64 0, .bool false] 24)) (w.heap.size + 1) [.string ⟨#[]⟩, .int .i64 0, .bool false] ∧ Bk (((w.alloc (.cells #[.string s, .int .i64 p, .bool false, .string t, .int .i64 q, .bool false, .bool c] 59)).alloc (.cells #[.string ⟨#[]⟩, .int .i64 0, .bool false] 24)).alloc (.cells #[.string ⟨#[]⟩, .int .i64 0, .bool false] 24)) (w.heap.size + 1 + 1) [.string ⟨#[]⟩, .int .i64 0, .bool false] ∧ Below w.heap.size w (((w.alloc (.cells #[.string s, .int .i64 p, .bool false, .string t, .int .i64 q, .bool false, .bool c] 59)).alloc (.cells #[.string ⟨#[]⟩, .int .i64 0, .bool false] 24)).alloc (.cells #[.string ⟨#[]⟩, .int .i64 0, .bool false] 24))) := ⟨((Bk.new7 w (.string s) (.int .i64 p) (.bool false) (.string t) (.int .i64 q) (.bool false) (.bool c) 59).step ((Below.refl _ _).alloc (Nat.le_refl _) _)).step ((Below.refl _ _).alloc (Nat.le_refl _) _), (((by have q := Bk.new3 (w.alloc (.cells #[.string s, .int .i64 p, .bool false, .string t, .int .i64 q, .bool false, .bool c] 59)) (.string ⟨#[]⟩) (.int .i64 0) (.bool false) 24; simpa using q) : Bk ((w.alloc (.cells #[.string s, .int .i64 p, .bool false, .string t, .int .i64 q, .bool false, .bool c] 59)).alloc (.cells #[.string ⟨#[]⟩, .int .i64 0, .bool false] 24)) (w.heap.size + 1) [.string ⟨#[]⟩, .int .i64 0, .bool false])).step ((Below.refl _ _).alloc (Nat.le_refl _) _), ((by have q := Bk.new3 ((w.alloc (.cells #[.string s, .int .i64 p, .bool false, .string t, .int .i64 q, .bool false, .bool c] 59)).alloc (.cells #[.string ⟨#[]⟩, .int .i64 0, .bool false] 24)) (.string ⟨#[]⟩) (.int .i64 0) (.bool false) 24; simpa using q) : Bk (((w.alloc (.cells #[.string s, .int .i64 p, .bool false, .string t, .int .i64 q, .bool false, .bool c] 59)).alloc (.cells #[.string ⟨#[]⟩, .int .i64 0, .bool false] 24)).alloc (.cells #[.string ⟨#[]⟩, .int .i64 0, .bool false] 24)) (w.heap.size + 1 + 1) [.string ⟨#[]⟩, .int .i64 0, .bool false]), ((((Below.refl w.heap.size w)).alloc (Nat.le_refl _) _).alloc ((((Below.refl w.heap.size w)).alloc (Nat.le_refl _) _).size) _).alloc (((((Below.refl w.heap.size w)).alloc (Nat.le_refl _) _).alloc ((((Below.refl w.heap.size w)).alloc (Nat.le_refl _) _).size) _).size) _⟩
  go_enter Tryz.func52, Tryz.ntmps52
  have IB : Hid (Bk (((w.alloc (.cells #[.string s, .int .i64 p, .bool false, .string t, .int .i64 q, .bool false, .bool c] 59)).alloc (.cells #[.string ⟨#[]⟩, .int .i64 0, .bool false] 24)).alloc (.cells #[.string ⟨#[]⟩, .int .i64 0, .bool false] 24)) (w.heap.size) [.string s, .int .i64 p, .bool false, .string t, .int .i64 q, .bool false, .bool c] ∧ Bk (((w.alloc (.cells #[.string s, .int .i64 p, .bool false, .string t, .int .i64 q, .bool false, .bool c] 59)).alloc (.cells #[.string ⟨#[]⟩, .int .i64 0, .bool false] 24)).alloc (.cells #[.string ⟨#[]⟩, .int .i64 0, .bool false] 24)) (w.heap.size + 1) [.string ⟨#[]⟩, .int .i64 0, .bool false] ∧ Bk (((w.alloc (.cells #[.string s, .int .i64 p, .bool false, .string t, .int .i64 q, .bool false, .bool c] 59)).alloc (.cells #[.string ⟨#[]⟩, .int .i64 0, .bool false] 24)).alloc (.cells #[.string ⟨#[]⟩, .int .i64 0, .bool false] 24)) (w.heap.size + 1 + 1) [.string ⟨#[]⟩, .int .i64 0, .bool false] ∧ Below w.heap.size w (((w.alloc (.cells #[.string s, .int .i64 p, .bool false, .string t, .int .i64 q, .bool false, .bool c] 59)).alloc (.cells #[.string ⟨#[]⟩, .int .i64 0, .bool false] 24)).alloc (.cells #[.string ⟨#[]⟩, .int .i64 0, .bool false] 24))) := F0.out
  clear F0
  go_wp2
  go_step3
  go_wp2
  go_step3
  go_wp2
  go_loopg [11, 12, 14] (many + 1 - few) (fun g okv iv _ wr => ∃ n : Nat, okv = .bool false ∧ iv = .int .i64 (n : Int) ∧ few ≤ n ∧ n + g = many + 1 ∧ Hid (Bk wr (w.heap.size) [.string s, .int .i64 p, .bool false, .string t, .int .i64 q, .bool false, .bool c] ∧ Bk wr (w.heap.size + 1) [.string ⟨#[]⟩, .int .i64 0, .bool false] ∧ Bk wr (w.heap.size + 1 + 1) [.string ⟨#[]⟩, .int .i64 0, .bool false] ∧ Below w.heap.size w wr) ∧ Hid (aX    (hdB c s p t q) cand n g = R))
  case atStart => exact ⟨few, rfl, rfl, Nat.le_refl _, by omega, IB.out, HR.out⟩
  case round =>
    obtain ⟨n, rfl, rfl, hn, hng, HB, HS⟩ := hrel
    clear IB HR
    cases gk with
    | zero =>
      have F50 := HB
      clear HB
      have n1 : ¬ (n : Int) ≤ (many : Int) := by omega
      have e : R = none := HS.out.symm
      subst e
      have l1_0 := F50.out.1.lt
      have a1_0_0 := F50.out.1.cell 0 _ rfl
      have f1_0_0 := F50.out.1.fz 0
      have a1_0_1 := F50.out.1.cell 1 _ rfl
      have f1_0_1 := F50.out.1.fz 1
      have a1_0_2 := F50.out.1.cell 2 _ rfl
      have f1_0_2 := F50.out.1.fz 2
      have a1_0_3 := F50.out.1.cell 3 _ rfl
      have f1_0_3 := F50.out.1.fz 3
      have a1_0_4 := F50.out.1.cell 4 _ rfl
      have f1_0_4 := F50.out.1.fz 4
      have a1_0_5 := F50.out.1.cell 5 _ rfl
      have f1_0_5 := F50.out.1.fz 5
      have a1_0_6 := F50.out.1.cell 6 _ rfl
      have f1_0_6 := F50.out.1.fz 6
      have l1_1 := F50.out.2.1.lt
      have a1_1_0 := F50.out.2.1.cell 0 _ rfl
      have f1_1_0 := F50.out.2.1.fz 0
      have a1_1_1 := F50.out.2.1.cell 1 _ rfl
      have f1_1_1 := F50.out.2.1.fz 1
      have a1_1_2 := F50.out.2.1.cell 2 _ rfl
      have f1_1_2 := F50.out.2.1.fz 2
      have l1_2 := F50.out.2.2.1.lt
      have a1_2_0 := F50.out.2.2.1.cell 0 _ rfl
      have f1_2_0 := F50.out.2.2.1.fz 0
      have a1_2_1 := F50.out.2.2.1.cell 1 _ rfl
      have f1_2_1 := F50.out.2.2.1.fz 1
      have a1_2_2 := F50.out.2.2.1.cell 2 _ rfl
      have f1_2_2 := F50.out.2.2.1.fz 2
      have ne1_0_1 : ¬ w.heap.size = w.heap.size + 1 := by omega
      have ne1_0_2 : ¬ w.heap.size = w.heap.size + 1 + 1 := by omega
      have ne1_1_0 : ¬ w.heap.size + 1 = w.heap.size := by omega
      have ne1_1_2 : ¬ w.heap.size + 1 = w.heap.size + 1 + 1 := by omega
      have ne1_2_0 : ¬ w.heap.size + 1 + 1 = w.heap.size := by omega
      have ne1_2_1 : ¬ w.heap.size + 1 + 1 = w.heap.size + 1 := by omega
      go_wp2
      try rw [Exit.noGoto_ret]
      refine bodyPost_ret (v := .tuple #[.agg #[.string ⟨#[]⟩, .int .i64 0, .bool false], .bool false]) (by simp [results, Tryz.results52, go_sem, World.cell?_setCell_same, World.cell?_setCell_other, *]) rfl ⟨rfl, ?_⟩
      repeat (first | refine Below.setCell ?_ (by first | exact Nat.le_refl _ | (dsimp only; omega)) _ | refine Below.alloc ?_ (by first | exact Nat.le_refl _ | omega | (simp; omega)) _ | refine Below.drew ?_)
      exact F50.out.2.2.2
    | succ g =>
      have F50 := HB
      clear HB
      have n1 : (n : Int) ≤ (many : Int) := by omega
      have HTn := HTT.out n hn (by omega) _ (HJ.out.1 _ _ HJ.out.2 F50.out.2.2.2)
      go_wp2_with fail
      all_goals first | (exfalso; omega) | skip
      refine (HTn).mono ?_
      rintro o21 w21 ⟨a, rfl, dr, bb⟩
      have F51 : Hid (Bk w21 (w.heap.size) [.string s, .int .i64 p, .bool false, .string t, .int .i64 q, .bool false, .bool c] ∧ Bk w21 (w.heap.size + 1) [.string ⟨#[]⟩, .int .i64 0, .bool false] ∧ Bk w21 (w.heap.size + 1 + 1) [.string ⟨#[]⟩, .int .i64 0, .bool false] ∧ Below w.heap.size w w21) := ⟨(F50.out.1).step bb, (F50.out.2.1).step bb, (F50.out.2.2.1).step bb, (F50.out.2.2.2).trans (bb.mono (F50.out.2.2.2).size)⟩
      clear F50
      clear bb
      have DR : Hid (DRow w21 a (cand n)) := dr
      clear dr HTn
      have IB2 : Hid (Bk w21 (w.heap.size) [.string s, .int .i64 p, .bool false, .string t, .int .i64 q, .bool false, .bool c] ∧ Bk w21 (w.heap.size + 1) [.string ⟨#[]⟩, .int .i64 0, .bool false] ∧ Bk w21 (w.heap.size + 1 + 1) [.string ⟨#[]⟩, .int .i64 0, .bool false] ∧ DRow w21 a (cand n) ∧ Below w.heap.size w w21) := ⟨F51.out.1, F51.out.2.1, F51.out.2.2.1, DR.out, F51.out.2.2.2⟩
      clear F51 DR
      go_wp2
      go_loopg [11, 14, 25] len (fun g2 okv _ jv wy => ∃ j : Nat, okv = .bool false ∧ jv = .int .i64 (j : Int) ∧ j + g2 = len ∧ Hid (Bk wy (w.heap.size) [.string s, .int .i64 p, .bool false, .string t, .int .i64 q, .bool false, .bool c] ∧ Bk wy (w.heap.size + 1) [.string ⟨#[]⟩, .int .i64 0, .bool false] ∧ Bk wy (w.heap.size + 1 + 1) [.string ⟨#[]⟩, .int .i64 0, .bool false] ∧ DRow wy a (cand n) ∧ Below w.heap.size w wy) ∧ Hid (((cand n).drop j).find? (hdB c s p t q) = (cand n).find? (hdB c s p t q)))
      case atStart => exact ⟨0, rfl, rfl, by omega, IB2.out, rfl⟩
      case round =>
        obtain ⟨j, rfl, rfl, hj, HB, HF⟩ := hrel
        clear IB2
        cases gk with
        | zero =>
          have j1 : ¬ (j : Int) < (len : Int) := by omega
          have e : (cand n).find? (hdB c s p t q) = none := by
            rw [← HF.out, List.drop_eq_nil_of_le (by have := HL.out n; omega)]
            rfl
          have HS2 : Hid (aX    (hdB c s p t q) cand (n + 1) g = R) := by
            have := HS.out
            unfold aX    at this
            rw [e] at this
            exact this
          clear HS e
          go_wp2
          go_roundg g
          case measure => omega
          case rel => exact ⟨n + 1, rfl, by go_num, by omega, by omega, ⟨HB.out.1, HB.out.2.1, HB.out.2.2.1, HB.out.2.2.2.2⟩, HS2.out⟩
        | succ g2 =>
            have j1 : (j : Int) < (len : Int) := by omega
            have ij : ((j : Int)).toNat = j := by omega
            obtain ⟨d, hd⟩ : ∃ d, (cand n)[j]? = some d := ⟨_, List.getElem?_eq_getElem (by have := HL.out n; omega)⟩
            obtain ⟨d1, d2⟩ := d
            have HH := fun W => oW       (c := c) HVD.out.1 HVD.out.2 (HV.out n hn (by omega) _ (List.mem_of_getElem? hd)) W
            have HFD : Hid (((cand n).drop j).find? (hdB c s p t q) = if hdB c s p t q (d1, d2) then some (d1, d2) else ((cand n).drop (j + 1)).find? (hdB c s p t q)) := mD        (hb := hdB c s p t q) hd
            have F80 := HB
            have hdl := HB.out.2.2.2.1.lt
            obtain ⟨ca, cb, cc⟩ := HB.out.2.2.2.1.cell j _ hd
            dsimp only at ca cb cc HH
            clear HB hd
            have lt0_4 := (F80.out.1).lt
            have lt1_4 := (F80.out.2.1).lt
            have lt2_4 := (F80.out.2.2.1).lt
            have lt3_4 := (F80.out.2.2.2.1).lt
            have le4 := (F80.out.2.2.2.2).size
            have F81 : Hid (Bk (wr.alloc (.cells #[.string d1, .int .i64 d2, .bool false] 24)) (w.heap.size) [.string s, .int .i64 p, .bool false, .string t, .int .i64 q, .bool false, .bool c] ∧ Bk (wr.alloc (.cells #[.string d1, .int .i64 d2, .bool false] 24)) (w.heap.size + 1) [.string ⟨#[]⟩, .int .i64 0, .bool false] ∧ Bk (wr.alloc (.cells #[.string d1, .int .i64 d2, .bool false] 24)) (w.heap.size + 1 + 1) [.string ⟨#[]⟩, .int .i64 0, .bool false] ∧ DRow (wr.alloc (.cells #[.string d1, .int .i64 d2, .bool false] 24)) a (cand n) ∧ Bk (wr.alloc (.cells #[.string d1, .int .i64 d2, .bool false] 24)) (wr.heap.size) [.string d1, .int .i64 d2, .bool false] ∧ Below w.heap.size w (wr.alloc (.cells #[.string d1, .int .i64 d2, .bool false] 24))) := ⟨(F80.out.1).step ((Below.refl _ _).alloc (Nat.le_refl _) _), (F80.out.2.1).step ((Below.refl _ _).alloc (Nat.le_refl _) _), (F80.out.2.2.1).step ((Below.refl _ _).alloc (Nat.le_refl _) _), (F80.out.2.2.2.1).step ((Below.refl _ _).alloc (Nat.le_refl _) _), Bk.new3 wr (.string d1) (.int .i64 d2) (.bool false) 24, (F80.out.2.2.2.2).alloc ((F80.out.2.2.2.2).size) _⟩
            clear F80
            go_upto_region 9 with fail
            generalize (wr.alloc (.cells #[.string d1, .int .i64 d2, .bool false] 24)) = w41 at *
            clear ca cb cc
            have l1_0 := F81.out.1.lt
            have a1_0_0 := F81.out.1.cell 0 _ rfl
            have f1_0_0 := F81.out.1.fz 0
            have a1_0_1 := F81.out.1.cell 1 _ rfl
            have f1_0_1 := F81.out.1.fz 1
            have a1_0_2 := F81.out.1.cell 2 _ rfl
            have f1_0_2 := F81.out.1.fz 2
            have a1_0_3 := F81.out.1.cell 3 _ rfl
            have f1_0_3 := F81.out.1.fz 3
            have a1_0_4 := F81.out.1.cell 4 _ rfl
            have f1_0_4 := F81.out.1.fz 4
            have a1_0_5 := F81.out.1.cell 5 _ rfl
            have f1_0_5 := F81.out.1.fz 5
            have a1_0_6 := F81.out.1.cell 6 _ rfl
            have f1_0_6 := F81.out.1.fz 6
            have l1_1 := F81.out.2.1.lt
            have a1_1_0 := F81.out.2.1.cell 0 _ rfl
            have f1_1_0 := F81.out.2.1.fz 0
            have a1_1_1 := F81.out.2.1.cell 1 _ rfl
            have f1_1_1 := F81.out.2.1.fz 1
            have a1_1_2 := F81.out.2.1.cell 2 _ rfl
            have f1_1_2 := F81.out.2.1.fz 2
            have l1_2 := F81.out.2.2.1.lt
            have a1_2_0 := F81.out.2.2.1.cell 0 _ rfl
            have f1_2_0 := F81.out.2.2.1.fz 0
            have a1_2_1 := F81.out.2.2.1.cell 1 _ rfl
            have f1_2_1 := F81.out.2.2.1.fz 1
            have a1_2_2 := F81.out.2.2.1.cell 2 _ rfl
            have f1_2_2 := F81.out.2.2.1.fz 2
            have l1_4 := F81.out.2.2.2.2.1.lt
            have a1_4_0 := F81.out.2.2.2.2.1.cell 0 _ rfl
            have f1_4_0 := F81.out.2.2.2.2.1.fz 0
            have a1_4_1 := F81.out.2.2.2.2.1.cell 1 _ rfl
            have f1_4_1 := F81.out.2.2.2.2.1.fz 1
            have a1_4_2 := F81.out.2.2.2.2.1.cell 2 _ rfl
            have f1_4_2 := F81.out.2.2.2.2.1.fz 2
            have ne1_0_1 : ¬ w.heap.size = w.heap.size + 1 := by omega
            have ne1_0_2 : ¬ w.heap.size = w.heap.size + 1 + 1 := by omega
            have ne1_0_4 : ¬ w.heap.size = wr.heap.size := by omega
            have ne1_1_0 : ¬ w.heap.size + 1 = w.heap.size := by omega
            have ne1_1_2 : ¬ w.heap.size + 1 = w.heap.size + 1 + 1 := by omega
            have ne1_1_4 : ¬ w.heap.size + 1 = wr.heap.size := by omega
            have ne1_2_0 : ¬ w.heap.size + 1 + 1 = w.heap.size := by omega
            have ne1_2_1 : ¬ w.heap.size + 1 + 1 = w.heap.size + 1 := by omega
            have ne1_2_4 : ¬ w.heap.size + 1 + 1 = wr.heap.size := by omega
            have ne1_4_0 : ¬ wr.heap.size = w.heap.size := by omega
            have ne1_4_1 : ¬ wr.heap.size = w.heap.size + 1 := by omega
            have ne1_4_2 : ¬ wr.heap.size = w.heap.size + 1 + 1 := by omega
            go_wp2_with fail
            all_goals first | (exfalso; omega) | skip
            refine (HH _).mono ?_
            rintro o42 w42 ⟨rfl, bb⟩
            have F82 : Hid (Bk w42 (w.heap.size) [.string s, .int .i64 p, .bool false, .string t, .int .i64 q, .bool false, .bool c] ∧ Bk w42 (w.heap.size + 1) [.string ⟨#[]⟩, .int .i64 0, .bool false] ∧ Bk w42 (w.heap.size + 1 + 1) [.string ⟨#[]⟩, .int .i64 0, .bool false] ∧ DRow w42 a (cand n) ∧ Bk w42 (wr.heap.size) [.string d1, .int .i64 d2, .bool false] ∧ Below w.heap.size w w42) := ⟨(F81.out.1).step bb, (F81.out.2.1).step bb, (F81.out.2.2.1).step bb, (F81.out.2.2.2.1).step bb, (F81.out.2.2.2.2.1).step bb, (F81.out.2.2.2.2.2).trans (bb.mono (F81.out.2.2.2.2.2).size)⟩
            clear F81
            clear bb
            clear l1_0 a1_0_0 f1_0_0 a1_0_1 f1_0_1 a1_0_2 f1_0_2 a1_0_3 f1_0_3 a1_0_4 f1_0_4 a1_0_5 f1_0_5 a1_0_6 f1_0_6 l1_1 a1_1_0 f1_1_0 a1_1_1 f1_1_1 a1_1_2 f1_1_2 l1_2 a1_2_0 f1_2_0 a1_2_1 f1_2_1 a1_2_2 f1_2_2 l1_4 a1_4_0 f1_4_0 a1_4_1 f1_4_1 a1_4_2 f1_4_2
            generalize hdB c s p t q (d1, d2) = r at *
            cases r with
            | true =>
                have e : (cand n).find? (hdB c s p t q) = some (d1, d2) := by
                  rw [← HF.out, HFD.out]
                  rfl
                have e2 : R = some (d1, d2) := by
                  have := HS.out
                  unfold aX    at this
                  rw [e] at this
                  exact this.symm
                subst e2
                clear e HS
                have l2_0 := F82.out.1.lt
                have a2_0_0 := F82.out.1.cell 0 _ rfl
                have f2_0_0 := F82.out.1.fz 0
                have a2_0_1 := F82.out.1.cell 1 _ rfl
                have f2_0_1 := F82.out.1.fz 1
                have a2_0_2 := F82.out.1.cell 2 _ rfl
                have f2_0_2 := F82.out.1.fz 2
                have a2_0_3 := F82.out.1.cell 3 _ rfl
                have f2_0_3 := F82.out.1.fz 3
                have a2_0_4 := F82.out.1.cell 4 _ rfl
                have f2_0_4 := F82.out.1.fz 4
                have a2_0_5 := F82.out.1.cell 5 _ rfl
                have f2_0_5 := F82.out.1.fz 5
                have a2_0_6 := F82.out.1.cell 6 _ rfl
                have f2_0_6 := F82.out.1.fz 6
                have l2_1 := F82.out.2.1.lt
                have a2_1_0 := F82.out.2.1.cell 0 _ rfl
                have f2_1_0 := F82.out.2.1.fz 0
                have a2_1_1 := F82.out.2.1.cell 1 _ rfl
                have f2_1_1 := F82.out.2.1.fz 1
                have a2_1_2 := F82.out.2.1.cell 2 _ rfl
                have f2_1_2 := F82.out.2.1.fz 2
                have l2_2 := F82.out.2.2.1.lt
                have a2_2_0 := F82.out.2.2.1.cell 0 _ rfl
                have f2_2_0 := F82.out.2.2.1.fz 0
                have a2_2_1 := F82.out.2.2.1.cell 1 _ rfl
                have f2_2_1 := F82.out.2.2.1.fz 1
                have a2_2_2 := F82.out.2.2.1.cell 2 _ rfl
                have f2_2_2 := F82.out.2.2.1.fz 2
                have l2_4 := F82.out.2.2.2.2.1.lt
                have a2_4_0 := F82.out.2.2.2.2.1.cell 0 _ rfl
                have f2_4_0 := F82.out.2.2.2.2.1.fz 0
                have a2_4_1 := F82.out.2.2.2.2.1.cell 1 _ rfl
                have f2_4_1 := F82.out.2.2.2.2.1.fz 1
                have a2_4_2 := F82.out.2.2.2.2.1.cell 2 _ rfl
                have f2_4_2 := F82.out.2.2.2.2.1.fz 2
                have ne2_0_1 : ¬ w.heap.size = w.heap.size + 1 := by omega
                have ne2_0_2 : ¬ w.heap.size = w.heap.size + 1 + 1 := by omega
                have ne2_0_4 : ¬ w.heap.size = wr.heap.size := by omega
                have ne2_1_0 : ¬ w.heap.size + 1 = w.heap.size := by omega
                have ne2_1_2 : ¬ w.heap.size + 1 = w.heap.size + 1 + 1 := by omega
                have ne2_1_4 : ¬ w.heap.size + 1 = wr.heap.size := by omega
                have ne2_2_0 : ¬ w.heap.size + 1 + 1 = w.heap.size := by omega
                have ne2_2_1 : ¬ w.heap.size + 1 + 1 = w.heap.size + 1 := by omega
                have ne2_2_4 : ¬ w.heap.size + 1 + 1 = wr.heap.size := by omega
                have ne2_4_0 : ¬ wr.heap.size = w.heap.size := by omega
                have ne2_4_1 : ¬ wr.heap.size = w.heap.size + 1 := by omega
                have ne2_4_2 : ¬ wr.heap.size = w.heap.size + 1 + 1 := by omega
                go_wp2
                try rw [Exit.noGoto_ret]
                refine bodyPost_ret (v := .tuple #[.agg #[.string d1, .int .i64 d2, .bool false], .bool true]) (by simp [results, Tryz.results52, go_sem, World.cell?_setCell_same, World.cell?_setCell_other, *]) rfl ⟨rfl, ?_⟩
                repeat (first | refine Below.setCell ?_ (by first | exact Nat.le_refl _ | (dsimp only; omega)) _ | refine Below.alloc ?_ (by first | exact Nat.le_refl _ | omega | (simp; omega)) _ | refine Below.drew ?_)
                exact F82.out.2.2.2.2.2
            | false =>
                have HF2 : Hid (((cand n).drop (j + 1)).find? (hdB c s p t q) = (cand n).find? (hdB c s p t q)) := by
                  show _ = _
                  rw [← HF.out, HFD.out]
                  rfl
                clear HF HFD
                go_wp2
                go_roundg g2
                case measure => omega
                case rel => exact ⟨j + 1, rfl, by go_num, by omega, ⟨F82.out.1, F82.out.2.1, F82.out.2.2.1, F82.out.2.2.2.1, F82.out.2.2.2.2.2⟩, HF2.out⟩
theorem aAj {a:Nat}{u r1 g1:ByteArray}{o r2 g2 n:Int}(HR:∀ W,Cb 54 #[.agg #[.string u,vI o,.bool false],vI n] W (.tuple #[.agg #[.string r1,vI r2,.bool false],.nilIface])) (HU:∀ W,Cb 55 #[.agg #[.string u,vI o,.bool false],vI n] W (.tuple #[.agg #[.string g1,vI g2,.bool false],.nilIface])) (w:World) (hw:Bk w a [.string u,vI o,.bool false]) :
 Calls Tryz.prog 53 #[vI n,.pointer (some ⟨a,0,none⟩)] w fun e w'=>∃ a':Nat,e=.returned (.slice (some ⟨a',0,none⟩) 2 2)/\DRow w' a' [(r1,r2),(g1,g2)]/\Bl w w':=by
 have F0:Hid (Bk w a [.string u,vI o,.bool false]/\Bl w w):=⟨hw,Below.refl _ _⟩
 clear hw
 go_enter Tryz.func53,Tryz.ntmps53
 have l1_0:=F0.out.1.lt
 have a1_0_0:=F0.out.1.cell 0 _ rfl
 have f1_0_0:=F0.out.1.fz 0
 have a1_0_1:=F0.out.1.cell 1 _ rfl
 have f1_0_1:=F0.out.1.fz 1
 have a1_0_2:=F0.out.1.cell 2 _ rfl
 have f1_0_2:=F0.out.1.fz 2
 go_wp2_with fail
 all_goals first | (exfalso;omega) | skip
 refine (HR _).mono ?_
 rintro o1 w1 ⟨rfl,bb⟩
 have F1:Hid (Bk w1 (a) [.string u,vI o,.bool false]/\Bl w w1):=⟨(F0.out.1).step bb,(F0.out.2).trans (bb.mono (F0.out.2).size)⟩
 clear F0
 clear bb
 clear l1_0 a1_0_0 f1_0_0 a1_0_1 f1_0_1 a1_0_2 f1_0_2
 have lt0_1:=(F1.out.1).lt
 have le1:=(F1.out.2).size
 have F2:Hid (Bk (w1.alloc (.cells #[.string r1,vI r2,.bool false] 24)) (a) [.string u,vI o,.bool false]/\Bk (w1.alloc (.cells #[.string r1,vI r2,.bool false] 24)) (w1.heap.size) [.string r1,vI r2,.bool false]/\Bl w (w1.alloc (.cells #[.string r1,vI r2,.bool false] 24))):=⟨(F1.out.1).step (bz _ _),Bk.new3 w1 (.string r1) (vI r2) (.bool false) 24,(F1.out.2).alloc ((F1.out.2).size) _⟩
 clear F1
 go_upto_region 2 with fail
 generalize (w1.alloc (.cells #[.string r1,vI r2,.bool false] 24))=w2 at *
 have l2_0:=F2.out.1.lt
 have a2_0_0:=F2.out.1.cell 0 _ rfl
 have f2_0_0:=F2.out.1.fz 0
 have a2_0_1:=F2.out.1.cell 1 _ rfl
 have f2_0_1:=F2.out.1.fz 1
 have a2_0_2:=F2.out.1.cell 2 _ rfl
 have f2_0_2:=F2.out.1.fz 2
 have l2_1:=F2.out.2.1.lt
 have a2_1_0:=F2.out.2.1.cell 0 _ rfl
 have f2_1_0:=F2.out.2.1.fz 0
 have a2_1_1:=F2.out.2.1.cell 1 _ rfl
 have f2_1_1:=F2.out.2.1.fz 1
 have a2_1_2:=F2.out.2.1.cell 2 _ rfl
 have f2_1_2:=F2.out.2.1.fz 2
 have ne2_0_1:¬ a=w1.heap.size:=by omega
 have ne2_1_0:¬ w1.heap.size=a:=by omega
 go_wp2_with fail
 all_goals first | (exfalso;omega) | skip
 refine (HU _).mono ?_
 rintro o3 w3 ⟨rfl,bb⟩
 have F3:Hid (Bk w3 (a) [.string u,vI o,.bool false]/\Bk w3 (w1.heap.size) [.string r1,vI r2,.bool false]/\Bl w w3):=⟨(F2.out.1).step bb,(F2.out.2.1).step bb,(F2.out.2.2).trans (bb.mono (F2.out.2.2).size)⟩
 clear F2
 clear bb
 clear l2_0 a2_0_0 f2_0_0 a2_0_1 f2_0_1 a2_0_2 f2_0_2 l2_1 a2_1_0 f2_1_0 a2_1_1 f2_1_1 a2_1_2 f2_1_2
 have lt0_2:=(F3.out.1).lt
 have lt1_2:=(F3.out.2.1).lt
 have le2:=(F3.out.2.2).size
 have F4:Hid (Bk (w3.alloc (.cells #[.string g1,vI g2,.bool false] 24)) (a) [.string u,vI o,.bool false]/\Bk (w3.alloc (.cells #[.string g1,vI g2,.bool false] 24)) (w1.heap.size) [.string r1,vI r2,.bool false]/\Bk (w3.alloc (.cells #[.string g1,vI g2,.bool false] 24)) (w3.heap.size) [.string g1,vI g2,.bool false]/\Bl w (w3.alloc (.cells #[.string g1,vI g2,.bool false] 24))):=⟨(F3.out.1).step (bz _ _),(F3.out.2.1).step (bz _ _),Bk.new3 w3 (.string g1) (vI g2) (.bool false) 24,(F3.out.2.2).alloc ((F3.out.2.2).size) _⟩
 clear F3
 go_upto_region 3 with fail
 generalize (w3.alloc (.cells #[.string g1,vI g2,.bool false] 24))=w4 at *
 have l3_0:=F4.out.1.lt
 have a3_0_0:=F4.out.1.cell 0 _ rfl
 have f3_0_0:=F4.out.1.fz 0
 have a3_0_1:=F4.out.1.cell 1 _ rfl
 have f3_0_1:=F4.out.1.fz 1
 have a3_0_2:=F4.out.1.cell 2 _ rfl
 have f3_0_2:=F4.out.1.fz 2
 have l3_1:=F4.out.2.1.lt
 have a3_1_0:=F4.out.2.1.cell 0 _ rfl
 have f3_1_0:=F4.out.2.1.fz 0
 have a3_1_1:=F4.out.2.1.cell 1 _ rfl
 have f3_1_1:=F4.out.2.1.fz 1
 have a3_1_2:=F4.out.2.1.cell 2 _ rfl
 have f3_1_2:=F4.out.2.1.fz 2
 have l3_2:=F4.out.2.2.1.lt
 have a3_2_0:=F4.out.2.2.1.cell 0 _ rfl
 have f3_2_0:=F4.out.2.2.1.fz 0
 have a3_2_1:=F4.out.2.2.1.cell 1 _ rfl
 have f3_2_1:=F4.out.2.2.1.fz 1
 have a3_2_2:=F4.out.2.2.1.cell 2 _ rfl
 have f3_2_2:=F4.out.2.2.1.fz 2
 have ne3_0_1:¬ a=w1.heap.size:=by omega
 have ne3_0_2:¬ a=w3.heap.size:=by omega
 have ne3_1_0:¬ w1.heap.size=a:=by omega
 have ne3_1_2:¬ w1.heap.size=w3.heap.size:=by omega
 have ne3_2_0:¬ w3.heap.size=a:=by omega
 have ne3_2_1:¬ w3.heap.size=w1.heap.size:=by omega
 go_wp2
 go_ret
 refine ⟨w4.heap.size,rfl,DRow.new2 w4 (r1,r2) (g1,g2) 24,(F4.out.2.2.2).alloc (F4.out.2.2.2).size _⟩
theorem oY {s t u:ByteArray}{p q o:Int}{c:Bool}(hs:VD s p false) (ht:VD t q false) {few many:Nat}(fm:few<=many) (hm:many<=800) {r g:Nat -> Dp}(hr:∀ n,few<=n -> n<=many -> VD (r n).1 (r n).2 false/\VD (g n).1 (g n).2 false)
 (HR:∀ n:Nat,few<=n -> n<=many -> ∀ W,Cb 54 #[.agg #[.string u,vI o,.bool false],vI (n:Int)] W (.tuple #[.agg #[.string (r n).1,vI (r n).2,.bool false],.nilIface])) (HU:∀ n:Nat,few<=n -> n<=many -> ∀ W,Cb 55 #[.agg #[.string u,vI o,.bool false],vI (n:Int)] W (.tuple #[.agg #[.string (g n).1,vI (g n).2,.bool false],.nilIface])) (w:World) :
 Cb 29 #[.agg #[.string s,vI p,.bool false,.string t,vI q,.bool false,.bool c],.agg #[.string u,vI o,.bool false],vI (few:Int),vI (many:Int)] w (fG (aX (hdB c s p t q) (fun n=>[r n,g n]) few (many+1 - few))):=by
 have SKS:=fun (a:Nat) (w1:World) (j:Bk w1 a [.string u,vI o,.bool false])=>xQ (J:=fun W=>Bk W a [.string u,vI o,.bool false]) (capv:=.pointer (some ⟨a,0,none⟩)) (c:=c) (fun _ _ h b=>h.step b) hs ht fm hm (Nat.le_refl 2) (cand:=fun n=>[r n,g n]) (fun _=>rfl) (fun n h1 h2 d hd=>by
  rcases List.mem_cons.1 hd with rfl | hd
  . exact (hr n h1 h2).1
  . rw [List.mem_singleton.1 hd];exact (hr n h1 h2).2) (fun n h1 h2 W jj=>aAj (HR n h1 h2) (HU n h1 h2) W jj) w1 j
 clear HR HU hr hs ht fm hm
 generalize aX (hdB c s p t q) (fun n=>[r n,g n]) few (many+1 - few)=R at *
 rcases R with _ | ⟨d1,d2⟩ <;> unfold fG dcV at SKS
 . have F0:Hid (Bk (((w.alloc (.cells #[.string s,vI p,.bool false,.string t,vI q,.bool false,.bool c] 59)).alloc (.cells #[.string u,vI o,.bool false] 24)).alloc (.cells #[.string ⟨#[]⟩,vI 0,.bool false] 24)) (w.heap.size) [.string s,vI p,.bool false,.string t,vI q,.bool false,.bool c]/\Bk (((w.alloc (.cells #[.string s,vI p,.bool false,.string t,vI q,.bool false,.bool c] 59)).alloc (.cells #[.string u,vI o,.bool false] 24)).alloc (.cells #[.string ⟨#[]⟩,vI 0,.bool false] 24)) (w.heap.size+1) [.string u,vI o,.bool false]/\Bk (((w.alloc (.cells #[.string s,vI p,.bool false,.string t,vI q,.bool false,.bool c] 59)).alloc (.cells #[.string u,vI o,.bool false] 24)).alloc (.cells #[.string ⟨#[]⟩,vI 0,.bool false] 24)) (w.heap.size+1+1) [.string ⟨#[]⟩,vI 0,.bool false]/\Bl w (((w.alloc (.cells #[.string s,vI p,.bool false,.string t,vI q,.bool false,.bool c] 59)).alloc (.cells #[.string u,vI o,.bool false] 24)).alloc (.cells #[.string ⟨#[]⟩,vI 0,.bool false] 24))):=⟨((Bk.new7 w (.string s) (vI p) (.bool false) (.string t) (vI q) (.bool false) (.bool c) 59).step (bz _ _)).step (bz _ _),(((by have q:=Bk.new3 (w.alloc (.cells #[.string s,vI p,.bool false,.string t,vI q,.bool false,.bool c] 59)) (.string u) (vI o) (.bool false) 24;simpa using q):Bk ((w.alloc (.cells #[.string s,vI p,.bool false,.string t,vI q,.bool false,.bool c] 59)).alloc (.cells #[.string u,vI o,.bool false] 24)) (w.heap.size+1) [.string u,vI o,.bool false])).step (bz _ _),((by have q:=Bk.new3 ((w.alloc (.cells #[.string s,vI p,.bool false,.string t,vI q,.bool false,.bool c] 59)).alloc (.cells #[.string u,vI o,.bool false] 24)) (.string ⟨#[]⟩) (vI 0) (.bool false) 24;simpa using q):Bk (((w.alloc (.cells #[.string s,vI p,.bool false,.string t,vI q,.bool false,.bool c] 59)).alloc (.cells #[.string u,vI o,.bool false] 24)).alloc (.cells #[.string ⟨#[]⟩,vI 0,.bool false] 24)) (w.heap.size+1+1) [.string ⟨#[]⟩,vI 0,.bool false]),((((Below.refl w.heap.size w)).alloc (Nat.le_refl _) _).alloc ((((Below.refl w.heap.size w)).alloc (Nat.le_refl _) _).size) _).alloc (((((Below.refl w.heap.size w)).alloc (Nat.le_refl _) _).alloc ((((Below.refl w.heap.size w)).alloc (Nat.le_refl _) _).size) _).size) _⟩
   go_enter Tryz.func29,Tryz.ntmps29
   go_upto_region 1 with fail
   generalize (((w.alloc (.cells #[.string s,vI p,.bool false,.string t,vI q,.bool false,.bool c] 59)).alloc (.cells #[.string u,vI o,.bool false] 24)).alloc (.cells #[.string ⟨#[]⟩,vI 0,.bool false] 24))=w1 at *
   have l1_0:=F0.out.1.lt
   have a1_0_0:=F0.out.1.cell 0 _ rfl
   have f1_0_0:=F0.out.1.fz 0
   have a1_0_1:=F0.out.1.cell 1 _ rfl
   have f1_0_1:=F0.out.1.fz 1
   have a1_0_2:=F0.out.1.cell 2 _ rfl
   have f1_0_2:=F0.out.1.fz 2
   have a1_0_3:=F0.out.1.cell 3 _ rfl
   have f1_0_3:=F0.out.1.fz 3
   have a1_0_4:=F0.out.1.cell 4 _ rfl
   have f1_0_4:=F0.out.1.fz 4
   have a1_0_5:=F0.out.1.cell 5 _ rfl
   have f1_0_5:=F0.out.1.fz 5
   have a1_0_6:=F0.out.1.cell 6 _ rfl
   have f1_0_6:=F0.out.1.fz 6
   have l1_1:=F0.out.2.1.lt
   have a1_1_0:=F0.out.2.1.cell 0 _ rfl
   have f1_1_0:=F0.out.2.1.fz 0
   have a1_1_1:=F0.out.2.1.cell 1 _ rfl
   have f1_1_1:=F0.out.2.1.fz 1
   have a1_1_2:=F0.out.2.1.cell 2 _ rfl
   have f1_1_2:=F0.out.2.1.fz 2
   have l1_2:=F0.out.2.2.1.lt
   have a1_2_0:=F0.out.2.2.1.cell 0 _ rfl
   have f1_2_0:=F0.out.2.2.1.fz 0
   have a1_2_1:=F0.out.2.2.1.cell 1 _ rfl
   have f1_2_1:=F0.out.2.2.1.fz 1
   have a1_2_2:=F0.out.2.2.1.cell 2 _ rfl
   have f1_2_2:=F0.out.2.2.1.fz 2
   have ne1_0_1:¬ w.heap.size=w.heap.size+1:=by omega
   have ne1_0_2:¬ w.heap.size=w.heap.size+1+1:=by omega
   have ne1_1_0:¬ w.heap.size+1=w.heap.size:=by omega
   have ne1_1_2:¬ w.heap.size+1=w.heap.size+1+1:=by omega
   have ne1_2_0:¬ w.heap.size+1+1=w.heap.size:=by omega
   have ne1_2_1:¬ w.heap.size+1+1=w.heap.size+1:=by omega
   have SK1:=SKS _ _ F0.out.2.1
   go_wp2_with fail
   all_goals first | (exfalso;omega) | skip
   refine (SK1).mono ?_
   rintro o2 w2 ⟨rfl,bb⟩
   have F1:Hid (Bk w2 (w.heap.size) [.string s,vI p,.bool false,.string t,vI q,.bool false,.bool c]/\Bk w2 (w.heap.size+1) [.string u,vI o,.bool false]/\Bk w2 (w.heap.size+1+1) [.string ⟨#[]⟩,vI 0,.bool false]/\Bl w w2):=⟨(F0.out.1).step bb,(F0.out.2.1).step bb,(F0.out.2.2.1).step bb,(F0.out.2.2.2).trans (bb.mono (F0.out.2.2.2).size)⟩
   clear F0
   clear bb
   clear l1_0 a1_0_0 f1_0_0 a1_0_1 f1_0_1 a1_0_2 f1_0_2 a1_0_3 f1_0_3 a1_0_4 f1_0_4 a1_0_5 f1_0_5 a1_0_6 f1_0_6 l1_1 a1_1_0 f1_1_0 a1_1_1 f1_1_1 a1_1_2 f1_1_2 l1_2 a1_2_0 f1_2_0 a1_2_1 f1_2_1 a1_2_2 f1_2_2
   have l2_0:=F1.out.1.lt
   have a2_0_0:=F1.out.1.cell 0 _ rfl
   have f2_0_0:=F1.out.1.fz 0
   have a2_0_1:=F1.out.1.cell 1 _ rfl
   have f2_0_1:=F1.out.1.fz 1
   have a2_0_2:=F1.out.1.cell 2 _ rfl
   have f2_0_2:=F1.out.1.fz 2
   have a2_0_3:=F1.out.1.cell 3 _ rfl
   have f2_0_3:=F1.out.1.fz 3
   have a2_0_4:=F1.out.1.cell 4 _ rfl
   have f2_0_4:=F1.out.1.fz 4
   have a2_0_5:=F1.out.1.cell 5 _ rfl
   have f2_0_5:=F1.out.1.fz 5
   have a2_0_6:=F1.out.1.cell 6 _ rfl
   have f2_0_6:=F1.out.1.fz 6
   have l2_1:=F1.out.2.1.lt
   have a2_1_0:=F1.out.2.1.cell 0 _ rfl
   have f2_1_0:=F1.out.2.1.fz 0
   have a2_1_1:=F1.out.2.1.cell 1 _ rfl
   have f2_1_1:=F1.out.2.1.fz 1
   have a2_1_2:=F1.out.2.1.cell 2 _ rfl
   have f2_1_2:=F1.out.2.1.fz 2
   have l2_2:=F1.out.2.2.1.lt
   have a2_2_0:=F1.out.2.2.1.cell 0 _ rfl
   have f2_2_0:=F1.out.2.2.1.fz 0
   have a2_2_1:=F1.out.2.2.1.cell 1 _ rfl
   have f2_2_1:=F1.out.2.2.1.fz 1
   have a2_2_2:=F1.out.2.2.1.cell 2 _ rfl
   have f2_2_2:=F1.out.2.2.1.fz 2
   have ne2_0_1:¬ w.heap.size=w.heap.size+1:=by omega
   have ne2_0_2:¬ w.heap.size=w.heap.size+1+1:=by omega
   have ne2_1_0:¬ w.heap.size+1=w.heap.size:=by omega
   have ne2_1_2:¬ w.heap.size+1=w.heap.size+1+1:=by omega
   have ne2_2_0:¬ w.heap.size+1+1=w.heap.size:=by omega
   have ne2_2_1:¬ w.heap.size+1+1=w.heap.size+1:=by omega
   go_wp2
   refine bodyPost_ret (v:=.tuple #[.agg #[.string ⟨#[]⟩,vI 0,.bool false],.bool false]) (by simp [results,Tryz.results29,go_sem,World.cell?_setCell_same,World.cell?_setCell_other, *]) rfl ⟨rfl,?_⟩
   repeat (first | refine Below.setCell ?_ (by first | exact Nat.le_refl _ | (dsimp only;omega)) _ | refine Below.alloc ?_ (by first | exact Nat.le_refl _ | omega | (simp;omega)) _ | refine Below.drew ?_)
   exact F1.out.2.2.2
 . have F0:Hid (Bk (((w.alloc (.cells #[.string s,vI p,.bool false,.string t,vI q,.bool false,.bool c] 59)).alloc (.cells #[.string u,vI o,.bool false] 24)).alloc (.cells #[.string ⟨#[]⟩,vI 0,.bool false] 24)) (w.heap.size) [.string s,vI p,.bool false,.string t,vI q,.bool false,.bool c]/\Bk (((w.alloc (.cells #[.string s,vI p,.bool false,.string t,vI q,.bool false,.bool c] 59)).alloc (.cells #[.string u,vI o,.bool false] 24)).alloc (.cells #[.string ⟨#[]⟩,vI 0,.bool false] 24)) (w.heap.size+1) [.string u,vI o,.bool false]/\Bk (((w.alloc (.cells #[.string s,vI p,.bool false,.string t,vI q,.bool false,.bool c] 59)).alloc (.cells #[.string u,vI o,.bool false] 24)).alloc (.cells #[.string ⟨#[]⟩,vI 0,.bool false] 24)) (w.heap.size+1+1) [.string ⟨#[]⟩,vI 0,.bool false]/\Bl w (((w.alloc (.cells #[.string s,vI p,.bool false,.string t,vI q,.bool false,.bool c] 59)).alloc (.cells #[.string u,vI o,.bool false] 24)).alloc (.cells #[.string ⟨#[]⟩,vI 0,.bool false] 24))):=⟨((Bk.new7 w (.string s) (vI p) (.bool false) (.string t) (vI q) (.bool false) (.bool c) 59).step (bz _ _)).step (bz _ _),(((by have q:=Bk.new3 (w.alloc (.cells #[.string s,vI p,.bool false,.string t,vI q,.bool false,.bool c] 59)) (.string u) (vI o) (.bool false) 24;simpa using q):Bk ((w.alloc (.cells #[.string s,vI p,.bool false,.string t,vI q,.bool false,.bool c] 59)).alloc (.cells #[.string u,vI o,.bool false] 24)) (w.heap.size+1) [.string u,vI o,.bool false])).step (bz _ _),((by have q:=Bk.new3 ((w.alloc (.cells #[.string s,vI p,.bool false,.string t,vI q,.bool false,.bool c] 59)).alloc (.cells #[.string u,vI o,.bool false] 24)) (.string ⟨#[]⟩) (vI 0) (.bool false) 24;simpa using q):Bk (((w.alloc (.cells #[.string s,vI p,.bool false,.string t,vI q,.bool false,.bool c] 59)).alloc (.cells #[.string u,vI o,.bool false] 24)).alloc (.cells #[.string ⟨#[]⟩,vI 0,.bool false] 24)) (w.heap.size+1+1) [.string ⟨#[]⟩,vI 0,.bool false]),((((Below.refl w.heap.size w)).alloc (Nat.le_refl _) _).alloc ((((Below.refl w.heap.size w)).alloc (Nat.le_refl _) _).size) _).alloc (((((Below.refl w.heap.size w)).alloc (Nat.le_refl _) _).alloc ((((Below.refl w.heap.size w)).alloc (Nat.le_refl _) _).size) _).size) _⟩
   go_enter Tryz.func29,Tryz.ntmps29
   go_upto_region 1 with fail
   generalize (((w.alloc (.cells #[.string s,vI p,.bool false,.string t,vI q,.bool false,.bool c] 59)).alloc (.cells #[.string u,vI o,.bool false] 24)).alloc (.cells #[.string ⟨#[]⟩,vI 0,.bool false] 24))=w1 at *
   have l1_0:=F0.out.1.lt
   have a1_0_0:=F0.out.1.cell 0 _ rfl
   have f1_0_0:=F0.out.1.fz 0
   have a1_0_1:=F0.out.1.cell 1 _ rfl
   have f1_0_1:=F0.out.1.fz 1
   have a1_0_2:=F0.out.1.cell 2 _ rfl
   have f1_0_2:=F0.out.1.fz 2
   have a1_0_3:=F0.out.1.cell 3 _ rfl
   have f1_0_3:=F0.out.1.fz 3
   have a1_0_4:=F0.out.1.cell 4 _ rfl
   have f1_0_4:=F0.out.1.fz 4
   have a1_0_5:=F0.out.1.cell 5 _ rfl
   have f1_0_5:=F0.out.1.fz 5
   have a1_0_6:=F0.out.1.cell 6 _ rfl
   have f1_0_6:=F0.out.1.fz 6
   have l1_1:=F0.out.2.1.lt
   have a1_1_0:=F0.out.2.1.cell 0 _ rfl
   have f1_1_0:=F0.out.2.1.fz 0
   have a1_1_1:=F0.out.2.1.cell 1 _ rfl
   have f1_1_1:=F0.out.2.1.fz 1
   have a1_1_2:=F0.out.2.1.cell 2 _ rfl
   have f1_1_2:=F0.out.2.1.fz 2
   have l1_2:=F0.out.2.2.1.lt
   have a1_2_0:=F0.out.2.2.1.cell 0 _ rfl
   have f1_2_0:=F0.out.2.2.1.fz 0
   have a1_2_1:=F0.out.2.2.1.cell 1 _ rfl
   have f1_2_1:=F0.out.2.2.1.fz 1
   have a1_2_2:=F0.out.2.2.1.cell 2 _ rfl
   have f1_2_2:=F0.out.2.2.1.fz 2
   have ne1_0_1:¬ w.heap.size=w.heap.size+1:=by omega
   have ne1_0_2:¬ w.heap.size=w.heap.size+1+1:=by omega
   have ne1_1_0:¬ w.heap.size+1=w.heap.size:=by omega
   have ne1_1_2:¬ w.heap.size+1=w.heap.size+1+1:=by omega
   have ne1_2_0:¬ w.heap.size+1+1=w.heap.size:=by omega
   have ne1_2_1:¬ w.heap.size+1+1=w.heap.size+1:=by omega
   have SK1:=SKS _ _ F0.out.2.1
   go_wp2_with fail
   all_goals first | (exfalso;omega) | skip
   refine (SK1).mono ?_
   rintro o2 w2 ⟨rfl,bb⟩
   have F1:Hid (Bk w2 (w.heap.size) [.string s,vI p,.bool false,.string t,vI q,.bool false,.bool c]/\Bk w2 (w.heap.size+1) [.string u,vI o,.bool false]/\Bk w2 (w.heap.size+1+1) [.string ⟨#[]⟩,vI 0,.bool false]/\Bl w w2):=⟨(F0.out.1).step bb,(F0.out.2.1).step bb,(F0.out.2.2.1).step bb,(F0.out.2.2.2).trans (bb.mono (F0.out.2.2.2).size)⟩
   clear F0
   clear bb
   clear l1_0 a1_0_0 f1_0_0 a1_0_1 f1_0_1 a1_0_2 f1_0_2 a1_0_3 f1_0_3 a1_0_4 f1_0_4 a1_0_5 f1_0_5 a1_0_6 f1_0_6 l1_1 a1_1_0 f1_1_0 a1_1_1 f1_1_1 a1_1_2 f1_1_2 l1_2 a1_2_0 f1_2_0 a1_2_1 f1_2_1 a1_2_2 f1_2_2
   have l2_0:=F1.out.1.lt
   have a2_0_0:=F1.out.1.cell 0 _ rfl
   have f2_0_0:=F1.out.1.fz 0
   have a2_0_1:=F1.out.1.cell 1 _ rfl
   have f2_0_1:=F1.out.1.fz 1
   have a2_0_2:=F1.out.1.cell 2 _ rfl
   have f2_0_2:=F1.out.1.fz 2
   have a2_0_3:=F1.out.1.cell 3 _ rfl
   have f2_0_3:=F1.out.1.fz 3
   have a2_0_4:=F1.out.1.cell 4 _ rfl
   have f2_0_4:=F1.out.1.fz 4
   have a2_0_5:=F1.out.1.cell 5 _ rfl
   have f2_0_5:=F1.out.1.fz 5
   have a2_0_6:=F1.out.1.cell 6 _ rfl
   have f2_0_6:=F1.out.1.fz 6
   have l2_1:=F1.out.2.1.lt
   have a2_1_0:=F1.out.2.1.cell 0 _ rfl
   have f2_1_0:=F1.out.2.1.fz 0
   have a2_1_1:=F1.out.2.1.cell 1 _ rfl
   have f2_1_1:=F1.out.2.1.fz 1
   have a2_1_2:=F1.out.2.1.cell 2 _ rfl
   have f2_1_2:=F1.out.2.1.fz 2
   have l2_2:=F1.out.2.2.1.lt
   have a2_2_0:=F1.out.2.2.1.cell 0 _ rfl
   have f2_2_0:=F1.out.2.2.1.fz 0
   have a2_2_1:=F1.out.2.2.1.cell 1 _ rfl
   have f2_2_1:=F1.out.2.2.1.fz 1
   have a2_2_2:=F1.out.2.2.1.cell 2 _ rfl
   have f2_2_2:=F1.out.2.2.1.fz 2
   have ne2_0_1:¬ w.heap.size=w.heap.size+1:=by omega
   have ne2_0_2:¬ w.heap.size=w.heap.size+1+1:=by omega
   have ne2_1_0:¬ w.heap.size+1=w.heap.size:=by omega
   have ne2_1_2:¬ w.heap.size+1=w.heap.size+1+1:=by omega
   have ne2_2_0:¬ w.heap.size+1+1=w.heap.size:=by omega
   have ne2_2_1:¬ w.heap.size+1+1=w.heap.size+1:=by omega
   go_wp2
   refine bodyPost_ret (v:=.tuple #[.agg #[.string d1,vI d2,.bool false],.bool true]) (by simp [results,Tryz.results29,go_sem,World.cell?_setCell_same,World.cell?_setCell_other, *]) rfl ⟨rfl,?_⟩
   repeat (first | refine Below.setCell ?_ (by first | exact Nat.le_refl _ | (dsimp only;omega)) _ | refine Below.alloc ?_ (by first | exact Nat.le_refl _ | omega | (simp;omega)) _ | refine Below.drew ?_)
   exact F1.out.2.2.2
theorem aCh {b z:Int}{n:Int}(HS:∀ W,Cb 28 #[vU b,vI z] W (.tuple #[.agg #[.string ⟨#[]⟩,vI 0,.bool false,.string ⟨#[]⟩,vI 0,.bool false,.bool false],.agg #[.string ⟨#[]⟩,vI 0,.bool false],.iface 69 (vI n)])) (w:World) :
 Cb 8 #[vU b,vI z] w (.tuple #[.agg #[.string ⟨#[]⟩,vI 0,.bool false],.iface 69 (vI n)]):=by
 have F0:Hid (Bk (w.alloc (.cells #[.string ⟨#[]⟩,vI 0,.bool false] 24)) (w.heap.size) [.string ⟨#[]⟩,vI 0,.bool false]/\Bl w (w.alloc (.cells #[.string ⟨#[]⟩,vI 0,.bool false] 24))):=⟨Bk.new3 w (.string ⟨#[]⟩) (vI 0) (.bool false) 24,((Below.refl w.heap.size w)).alloc (Nat.le_refl _) _⟩
 go_enter Tryz.func8,Tryz.ntmps8
 go_upto_region 1 with fail
 generalize (w.alloc (.cells #[.string ⟨#[]⟩,vI 0,.bool false] 24))=w1 at *
 go_wp2_with fail
 all_goals first | (exfalso;omega) | skip
 refine (HS _).mono ?_
 rintro o2 w2 ⟨rfl,bb⟩
 have F1:Hid (Bk w2 (w.heap.size) [.string ⟨#[]⟩,vI 0,.bool false]/\Bl w w2):=⟨(F0.out.1).step bb,(F0.out.2).trans (bb.mono (F0.out.2).size)⟩
 clear F0
 clear bb
 have lt0_1:=(F1.out.1).lt
 have le1:=(F1.out.2).size
 have F2:Hid (Bk ((w2.alloc (.cells #[.string ⟨#[]⟩,vI 0,.bool false,.string ⟨#[]⟩,vI 0,.bool false,.bool false] 59)).alloc (.cells #[.string ⟨#[]⟩,vI 0,.bool false] 24)) (w.heap.size) [.string ⟨#[]⟩,vI 0,.bool false]/\Bk ((w2.alloc (.cells #[.string ⟨#[]⟩,vI 0,.bool false,.string ⟨#[]⟩,vI 0,.bool false,.bool false] 59)).alloc (.cells #[.string ⟨#[]⟩,vI 0,.bool false] 24)) (w2.heap.size) [.string ⟨#[]⟩,vI 0,.bool false,.string ⟨#[]⟩,vI 0,.bool false,.bool false]/\Bk ((w2.alloc (.cells #[.string ⟨#[]⟩,vI 0,.bool false,.string ⟨#[]⟩,vI 0,.bool false,.bool false] 59)).alloc (.cells #[.string ⟨#[]⟩,vI 0,.bool false] 24)) (w2.heap.size+1) [.string ⟨#[]⟩,vI 0,.bool false]/\Bl w ((w2.alloc (.cells #[.string ⟨#[]⟩,vI 0,.bool false,.string ⟨#[]⟩,vI 0,.bool false,.bool false] 59)).alloc (.cells #[.string ⟨#[]⟩,vI 0,.bool false] 24))):=⟨((F1.out.1).step (bz _ _)).step (bz _ _),(Bk.new7 w2 (.string ⟨#[]⟩) (vI 0) (.bool false) (.string ⟨#[]⟩) (vI 0) (.bool false) (.bool false) 59).step (bz _ _),((by have q:=Bk.new3 (w2.alloc (.cells #[.string ⟨#[]⟩,vI 0,.bool false,.string ⟨#[]⟩,vI 0,.bool false,.bool false] 59)) (.string ⟨#[]⟩) (vI 0) (.bool false) 24;simpa using q):Bk ((w2.alloc (.cells #[.string ⟨#[]⟩,vI 0,.bool false,.string ⟨#[]⟩,vI 0,.bool false,.bool false] 59)).alloc (.cells #[.string ⟨#[]⟩,vI 0,.bool false] 24)) (w2.heap.size+1) [.string ⟨#[]⟩,vI 0,.bool false]),((F1.out.2).alloc ((F1.out.2).size) _).alloc (((F1.out.2).alloc ((F1.out.2).size) _).size) _⟩
 clear F1
 go_upto_region 2 with fail
 generalize ((w2.alloc (.cells #[.string ⟨#[]⟩,vI 0,.bool false,.string ⟨#[]⟩,vI 0,.bool false,.bool false] 59)).alloc (.cells #[.string ⟨#[]⟩,vI 0,.bool false] 24))=w3 at *
 have l1_0:=F2.out.1.lt
 have a1_0_0:=F2.out.1.cell 0 _ rfl
 have f1_0_0:=F2.out.1.fz 0
 have a1_0_1:=F2.out.1.cell 1 _ rfl
 have f1_0_1:=F2.out.1.fz 1
 have a1_0_2:=F2.out.1.cell 2 _ rfl
 have f1_0_2:=F2.out.1.fz 2
 have l1_1:=F2.out.2.1.lt
 have a1_1_0:=F2.out.2.1.cell 0 _ rfl
 have f1_1_0:=F2.out.2.1.fz 0
 have a1_1_1:=F2.out.2.1.cell 1 _ rfl
 have f1_1_1:=F2.out.2.1.fz 1
 have a1_1_2:=F2.out.2.1.cell 2 _ rfl
 have f1_1_2:=F2.out.2.1.fz 2
 have a1_1_3:=F2.out.2.1.cell 3 _ rfl
 have f1_1_3:=F2.out.2.1.fz 3
 have a1_1_4:=F2.out.2.1.cell 4 _ rfl
 have f1_1_4:=F2.out.2.1.fz 4
 have a1_1_5:=F2.out.2.1.cell 5 _ rfl
 have f1_1_5:=F2.out.2.1.fz 5
 have a1_1_6:=F2.out.2.1.cell 6 _ rfl
 have f1_1_6:=F2.out.2.1.fz 6
 have l1_2:=F2.out.2.2.1.lt
 have a1_2_0:=F2.out.2.2.1.cell 0 _ rfl
 have f1_2_0:=F2.out.2.2.1.fz 0
 have a1_2_1:=F2.out.2.2.1.cell 1 _ rfl
 have f1_2_1:=F2.out.2.2.1.fz 1
 have a1_2_2:=F2.out.2.2.1.cell 2 _ rfl
 have f1_2_2:=F2.out.2.2.1.fz 2
 have ne1_0_1:¬ w.heap.size=w2.heap.size:=by omega
 have ne1_0_2:¬ w.heap.size=w2.heap.size+1:=by omega
 have ne1_1_0:¬ w2.heap.size=w.heap.size:=by omega
 have ne1_1_2:¬ w2.heap.size=w2.heap.size+1:=by omega
 have ne1_2_0:¬ w2.heap.size+1=w.heap.size:=by omega
 have ne1_2_1:¬ w2.heap.size+1=w2.heap.size:=by omega
 go_wp2
 refine bodyPost_ret (v:=.tuple #[.agg #[.string ⟨#[]⟩,vI 0,.bool false],.iface 69 (vI n)]) (by simp [results,Tryz.results8,go_sem,World.cell?_setCell_same,World.cell?_setCell_other, *]) rfl ⟨rfl,?_⟩
 repeat (first | refine Below.setCell ?_ (by first | exact Nat.le_refl _ | (dsimp only;omega)) _ | refine Below.alloc ?_ (by first | exact Nat.le_refl _ | omega | (simp;omega)) _ | refine Below.drew ?_)
 exact F2.out.2.2.2
theorem xP {b z:Int}{s t:ByteArray}{p q:Int}{c:Bool}{u d1:ByteArray}{o d2:Int}{k:Bool}(HS:∀ W,Cb 28 #[vU b,vI z] W (.tuple #[.agg #[.string s,vI p,.bool false,.string t,vI q,.bool false,.bool c],.agg #[.string u,vI o,.bool false],.nilIface])) (HN:∀ W,Cb 29 #[.agg #[.string s,vI p,.bool false,.string t,vI q,.bool false,.bool c],.agg #[.string u,vI o,.bool false],vI 1,vI 17] W (.tuple #[.agg #[.string d1,vI d2,.bool false],.bool k])) (w:World) :
 Cb 8 #[vU b,vI z] w (.tuple #[.agg #[.string d1,vI d2,.bool false],.nilIface]):=by
 have F0:Hid (Bk (w.alloc (.cells #[.string ⟨#[]⟩,vI 0,.bool false] 24)) (w.heap.size) [.string ⟨#[]⟩,vI 0,.bool false]/\Bl w (w.alloc (.cells #[.string ⟨#[]⟩,vI 0,.bool false] 24))):=⟨Bk.new3 w (.string ⟨#[]⟩) (vI 0) (.bool false) 24,((Below.refl w.heap.size w)).alloc (Nat.le_refl _) _⟩
 go_enter Tryz.func8,Tryz.ntmps8
 go_upto_region 1 with fail
 generalize (w.alloc (.cells #[.string ⟨#[]⟩,vI 0,.bool false] 24))=w1 at *
 go_wp2_with fail
 all_goals first | (exfalso;omega) | skip
 refine (HS _).mono ?_
 rintro o2 w2 ⟨rfl,bb⟩
 have F1:Hid (Bk w2 (w.heap.size) [.string ⟨#[]⟩,vI 0,.bool false]/\Bl w w2):=⟨(F0.out.1).step bb,(F0.out.2).trans (bb.mono (F0.out.2).size)⟩
 clear F0
 clear bb
 have lt0_1:=(F1.out.1).lt
 have le1:=(F1.out.2).size
 have F2:Hid (Bk ((w2.alloc (.cells #[.string s,vI p,.bool false,.string t,vI q,.bool false,.bool c] 59)).alloc (.cells #[.string u,vI o,.bool false] 24)) (w.heap.size) [.string ⟨#[]⟩,vI 0,.bool false]/\Bk ((w2.alloc (.cells #[.string s,vI p,.bool false,.string t,vI q,.bool false,.bool c] 59)).alloc (.cells #[.string u,vI o,.bool false] 24)) (w2.heap.size) [.string s,vI p,.bool false,.string t,vI q,.bool false,.bool c]/\Bk ((w2.alloc (.cells #[.string s,vI p,.bool false,.string t,vI q,.bool false,.bool c] 59)).alloc (.cells #[.string u,vI o,.bool false] 24)) (w2.heap.size+1) [.string u,vI o,.bool false]/\Bl w ((w2.alloc (.cells #[.string s,vI p,.bool false,.string t,vI q,.bool false,.bool c] 59)).alloc (.cells #[.string u,vI o,.bool false] 24))):=⟨((F1.out.1).step (bz _ _)).step (bz _ _),(Bk.new7 w2 (.string s) (vI p) (.bool false) (.string t) (vI q) (.bool false) (.bool c) 59).step (bz _ _),((by have q:=Bk.new3 (w2.alloc (.cells #[.string s,vI p,.bool false,.string t,vI q,.bool false,.bool c] 59)) (.string u) (vI o) (.bool false) 24;simpa using q):Bk ((w2.alloc (.cells #[.string s,vI p,.bool false,.string t,vI q,.bool false,.bool c] 59)).alloc (.cells #[.string u,vI o,.bool false] 24)) (w2.heap.size+1) [.string u,vI o,.bool false]),((F1.out.2).alloc ((F1.out.2).size) _).alloc (((F1.out.2).alloc ((F1.out.2).size) _).size) _⟩
 clear F1
 go_upto_region 2 with fail
 generalize ((w2.alloc (.cells #[.string s,vI p,.bool false,.string t,vI q,.bool false,.bool c] 59)).alloc (.cells #[.string u,vI o,.bool false] 24))=w3 at *
 have l1_0:=F2.out.1.lt
 have a1_0_0:=F2.out.1.cell 0 _ rfl
 have f1_0_0:=F2.out.1.fz 0
 have a1_0_1:=F2.out.1.cell 1 _ rfl
 have f1_0_1:=F2.out.1.fz 1
 have a1_0_2:=F2.out.1.cell 2 _ rfl
 have f1_0_2:=F2.out.1.fz 2
 have l1_1:=F2.out.2.1.lt
 have a1_1_0:=F2.out.2.1.cell 0 _ rfl
 have f1_1_0:=F2.out.2.1.fz 0
 have a1_1_1:=F2.out.2.1.cell 1 _ rfl
 have f1_1_1:=F2.out.2.1.fz 1
 have a1_1_2:=F2.out.2.1.cell 2 _ rfl
 have f1_1_2:=F2.out.2.1.fz 2
 have a1_1_3:=F2.out.2.1.cell 3 _ rfl
 have f1_1_3:=F2.out.2.1.fz 3
 have a1_1_4:=F2.out.2.1.cell 4 _ rfl
 have f1_1_4:=F2.out.2.1.fz 4
 have a1_1_5:=F2.out.2.1.cell 5 _ rfl
 have f1_1_5:=F2.out.2.1.fz 5
 have a1_1_6:=F2.out.2.1.cell 6 _ rfl
 have f1_1_6:=F2.out.2.1.fz 6
 have l1_2:=F2.out.2.2.1.lt
 have a1_2_0:=F2.out.2.2.1.cell 0 _ rfl
 have f1_2_0:=F2.out.2.2.1.fz 0
 have a1_2_1:=F2.out.2.2.1.cell 1 _ rfl
 have f1_2_1:=F2.out.2.2.1.fz 1
 have a1_2_2:=F2.out.2.2.1.cell 2 _ rfl
 have f1_2_2:=F2.out.2.2.1.fz 2
 have ne1_0_1:¬ w.heap.size=w2.heap.size:=by omega
 have ne1_0_2:¬ w.heap.size=w2.heap.size+1:=by omega
 have ne1_1_0:¬ w2.heap.size=w.heap.size:=by omega
 have ne1_1_2:¬ w2.heap.size=w2.heap.size+1:=by omega
 have ne1_2_0:¬ w2.heap.size+1=w.heap.size:=by omega
 have ne1_2_1:¬ w2.heap.size+1=w2.heap.size:=by omega
 go_wp2_with fail
 all_goals first | (exfalso;omega) | skip
 refine (HN _).mono ?_
 rintro o4 w4 ⟨rfl,bb⟩
 have F3:Hid (Bk w4 (w.heap.size) [.string ⟨#[]⟩,vI 0,.bool false]/\Bk w4 (w2.heap.size) [.string s,vI p,.bool false,.string t,vI q,.bool false,.bool c]/\Bk w4 (w2.heap.size+1) [.string u,vI o,.bool false]/\Bl w w4):=⟨(F2.out.1).step bb,(F2.out.2.1).step bb,(F2.out.2.2.1).step bb,(F2.out.2.2.2).trans (bb.mono (F2.out.2.2.2).size)⟩
 clear F2
 clear bb
 clear l1_0 a1_0_0 f1_0_0 a1_0_1 f1_0_1 a1_0_2 f1_0_2 l1_1 a1_1_0 f1_1_0 a1_1_1 f1_1_1 a1_1_2 f1_1_2 a1_1_3 f1_1_3 a1_1_4 f1_1_4 a1_1_5 f1_1_5 a1_1_6 f1_1_6 l1_2 a1_2_0 f1_2_0 a1_2_1 f1_2_1 a1_2_2 f1_2_2
 have lt0_3:=(F3.out.1).lt
 have lt1_3:=(F3.out.2.1).lt
 have lt2_3:=(F3.out.2.2.1).lt
 have le3:=(F3.out.2.2.2).size
 have F4:Hid (Bk (w4.alloc (.cells #[.string d1,vI d2,.bool false] 24)) (w.heap.size) [.string ⟨#[]⟩,vI 0,.bool false]/\Bk (w4.alloc (.cells #[.string d1,vI d2,.bool false] 24)) (w2.heap.size) [.string s,vI p,.bool false,.string t,vI q,.bool false,.bool c]/\Bk (w4.alloc (.cells #[.string d1,vI d2,.bool false] 24)) (w2.heap.size+1) [.string u,vI o,.bool false]/\Bk (w4.alloc (.cells #[.string d1,vI d2,.bool false] 24)) (w4.heap.size) [.string d1,vI d2,.bool false]/\Bl w (w4.alloc (.cells #[.string d1,vI d2,.bool false] 24))):=⟨(F3.out.1).step (bz _ _),(F3.out.2.1).step (bz _ _),(F3.out.2.2.1).step (bz _ _),Bk.new3 w4 (.string d1) (vI d2) (.bool false) 24,(F3.out.2.2.2).alloc ((F3.out.2.2.2).size) _⟩
 clear F3
 go_upto_region 5 with fail
 generalize (w4.alloc (.cells #[.string d1,vI d2,.bool false] 24))=w5 at *
 have l2_0:=F4.out.1.lt
 have a2_0_0:=F4.out.1.cell 0 _ rfl
 have f2_0_0:=F4.out.1.fz 0
 have a2_0_1:=F4.out.1.cell 1 _ rfl
 have f2_0_1:=F4.out.1.fz 1
 have a2_0_2:=F4.out.1.cell 2 _ rfl
 have f2_0_2:=F4.out.1.fz 2
 have l2_1:=F4.out.2.1.lt
 have a2_1_0:=F4.out.2.1.cell 0 _ rfl
 have f2_1_0:=F4.out.2.1.fz 0
 have a2_1_1:=F4.out.2.1.cell 1 _ rfl
 have f2_1_1:=F4.out.2.1.fz 1
 have a2_1_2:=F4.out.2.1.cell 2 _ rfl
 have f2_1_2:=F4.out.2.1.fz 2
 have a2_1_3:=F4.out.2.1.cell 3 _ rfl
 have f2_1_3:=F4.out.2.1.fz 3
 have a2_1_4:=F4.out.2.1.cell 4 _ rfl
 have f2_1_4:=F4.out.2.1.fz 4
 have a2_1_5:=F4.out.2.1.cell 5 _ rfl
 have f2_1_5:=F4.out.2.1.fz 5
 have a2_1_6:=F4.out.2.1.cell 6 _ rfl
 have f2_1_6:=F4.out.2.1.fz 6
 have l2_2:=F4.out.2.2.1.lt
 have a2_2_0:=F4.out.2.2.1.cell 0 _ rfl
 have f2_2_0:=F4.out.2.2.1.fz 0
 have a2_2_1:=F4.out.2.2.1.cell 1 _ rfl
 have f2_2_1:=F4.out.2.2.1.fz 1
 have a2_2_2:=F4.out.2.2.1.cell 2 _ rfl
 have f2_2_2:=F4.out.2.2.1.fz 2
 have l2_3:=F4.out.2.2.2.1.lt
 have a2_3_0:=F4.out.2.2.2.1.cell 0 _ rfl
 have f2_3_0:=F4.out.2.2.2.1.fz 0
 have a2_3_1:=F4.out.2.2.2.1.cell 1 _ rfl
 have f2_3_1:=F4.out.2.2.2.1.fz 1
 have a2_3_2:=F4.out.2.2.2.1.cell 2 _ rfl
 have f2_3_2:=F4.out.2.2.2.1.fz 2
 have ne2_0_1:¬ w.heap.size=w2.heap.size:=by omega
 have ne2_0_2:¬ w.heap.size=w2.heap.size+1:=by omega
 have ne2_0_3:¬ w.heap.size=w4.heap.size:=by omega
 have ne2_1_0:¬ w2.heap.size=w.heap.size:=by omega
 have ne2_1_2:¬ w2.heap.size=w2.heap.size+1:=by omega
 have ne2_1_3:¬ w2.heap.size=w4.heap.size:=by omega
 have ne2_2_0:¬ w2.heap.size+1=w.heap.size:=by omega
 have ne2_2_1:¬ w2.heap.size+1=w2.heap.size:=by omega
 have ne2_2_3:¬ w2.heap.size+1=w4.heap.size:=by omega
 have ne2_3_0:¬ w4.heap.size=w.heap.size:=by omega
 have ne2_3_1:¬ w4.heap.size=w2.heap.size:=by omega
 have ne2_3_2:¬ w4.heap.size=w2.heap.size+1:=by omega
 go_wp2
 refine bodyPost_ret (v:=.tuple #[.agg #[.string d1,vI d2,.bool false],.nilIface]) (by simp [results,Tryz.results8,go_sem,World.cell?_setCell_same,World.cell?_setCell_other, *]) rfl ⟨rfl,?_⟩
 repeat (first | refine Below.setCell ?_ (by first | exact Nat.le_refl _ | (dsimp only;omega)) _ | refine Below.alloc ?_ (by first | exact Nat.le_refl _ | omega | (simp;omega)) _ | refine Below.drew ?_)
 exact F4.out.2.2.2.2
theorem fQ (a b:Nat):pwT (a+b)=pwT a * pwT b:=Nat.pow_add 10 a b
theorem kV {a b:Nat}(h:pwT a<pwT b):a<b:=(Nat.pow_lt_pow_iff_right (by decide)).1 h
theorem aBu {m:Nat}{e:Int}(hm:m<=18014398509481984) (h1:-1075<=e) (h2:e<=971) {s:ByteArray}{p:Int}(D:Dx s p (fv m e)) (h0:0<s.size):p<=1000:=by
 obtain ⟨k,j,h,he⟩:∃ k j,Kj m k j/\e=(j:Int) - (k:Int):=by
  rcases Int.lt_or_le e 0 with c | c
  . exact ⟨(-e).toNat,0,⟨hm,by omega,by omega,Or.inr rfl⟩,by omega⟩
  . exact ⟨0,e.toNat,⟨hm,by omega,by omega,Or.inl rfl⟩,by omega⟩
 have w:=h.wh
 have f:=h.fv he
 obtain ⟨d0,d1,_⟩:=D.some h0
 have a:fv m e<pwT 800 * pwT (R0 - k):=by
  rw [f]
  exact Nat.mul_lt_mul_of_pos_right w (Nat.pow_pos (by decide))
 obtain ⟨e8,h8⟩:∃ e8,e8=800:=⟨_,rfl⟩
 rw [<- h8,<- fQ] at a
 have b:pwT (p+(R0:Int) - 1).toNat<pwT (e8+(R0 - k)):=Nat.lt_of_le_of_lt d1 a
 have:=kV b
 omega
theorem aDZ {u:ByteArray}{o:Int}{X A:Nat}(G:Dx u o X) (u0:0<u.size) (o1:o<=1000) (hA:o+(R0:Int)=(A:Int)) :
 ∃ d1 d2:Nat -> Dp,∀ n,1<=n -> n<=17 -> (d1 n).2=o/\Du u o n (d1 n).1 (d2 n).1 (d2 n).2/\Dx (d1 n).1 o (dnU X (10 ^ (A - n)))/\Dx (d2 n).1 (d2 n).2 (upU X (10 ^ (A - n))):=by
 have H:∀ n,∃ d:Dp × Dp,1<=n -> n<=17 -> d.1.2=o/\Du u o n d.1.1 d.2.1 d.2.2/\Dx d.1.1 o (dnU X (10 ^ (A - n)))/\Dx d.2.1 d.2.2 (upU X (10 ^ (A - n))):=by
  intro n
  by_cases c:1<=n/\n<=17
  . obtain ⟨s1,s2,p2,D1,D2,du⟩:=aD3 G u0 o1 hA (n:=n) (by omega) c.2
    exact ⟨((s1,o),(s2,p2)),fun _ _=>⟨rfl,du,D1,D2⟩⟩
  . exact ⟨((u,o),(u,o)),fun a b=>absurd ⟨a,b⟩ c⟩
 obtain ⟨f,hf⟩:=Classical.axiomOfChoice H
 exact ⟨fun n=>(f n).1,fun n=>(f n).2,fun n a b=>hf n a b⟩
def rC (u:ByteArray) (d1 d2:Nat -> Dp) (n:Nat):Dp:=if n<u.size/\upB u false n=true then d2 n else d1 n
theorem aBg {u:ByteArray}{o:Int}{X A:Nat}(G:Dx u o X) (u0:0<u.size) (hA:o+(R0:Int)=(A:Int)) {n:Nat}(n0:1<=n):(n<u.size/\upB u false n=true) ↔ rnB X (10 ^ (A - n))=true:=by
 have S0:0<10 ^ (A - n):=Nat.pow_pos (by decide)
 unfold rnB
 rw [decide_eq_true_eq]
 by_cases c:n<u.size
 . rw [<- aDR G u0 hA n0 c]
   exact ⟨fun h=>h.2,fun h=>⟨c,h⟩⟩
 . have mz:X % 10 ^ (A - n)=0:=by
    have lo:=G.lo
    have vl:=G.vl
    rw [hA] at vl lo
    rw [<- vl,show ((A:Int) - (u.size:Int)).toNat=(A - u.size - (A - n))+(A - n) by omega,Nat.pow_add,<- Nat.mul_assoc,Nat.mul_mod_left]
   rw [mz]
   constructor
   . intro h;exact absurd h.1 c
   . intro h;omega
structure Fl (z:Int) (f T:Nat) (L:Int) (S I b:Nat) (u:ByteArray) (o:Int) (s:ByteArray) (p:Int) (t:ByteArray) (q:Int) (A:Nat) (d1 d2:Nat -> Dp):Prop where
 fn:Fn z f T L S I b
 m0:mg S b ≠ 0
 g:Dx u o (vlF f L (mg S b))
 d:Dx s p (loF f L (mg S b))
 e:Dx t q (hiF f L (mg S b))
 o1:o<=1000
 hA:o+(R0:Int)=(A:Int)
 c:∀ n,1<=n -> n<=17 -> (d1 n).2=o/\Du u o n (d1 n).1 (d2 n).1 (d2 n).2/\Dx (d1 n).1 o (dnU (vlF f L (mg S b)) (10 ^ (A - n)))/\Dx (d2 n).1 (d2 n).2 (upU (vlF f L (mg S b)) (10 ^ (A - n)))
theorem mR {z:Int}{f T:Nat}{L:Int}{S I b:Nat}(h:Fn z f T L S I b) (m0:mg S b ≠ 0):∃ u o s p t q A d1 d2,Fl z f T L S I b u o s p t q A d1 d2:=by
 obtain ⟨⟨s,p,D⟩,⟨t,q,E⟩,u,o,G⟩:=Fn.has h
 have fs:=h.sf.fs.1
 have u0:=G.pos.2 (pE (f:=f) L m0)
 have x:=bR fs h.m
 have m:=dS fs (mg S b)
 have o1:=aBu (by omega) (by omega) (by omega) G u0
 have lo:=G.lo
 obtain ⟨A,hA⟩:∃ A:Nat,o+(R0:Int)=(A:Int):=⟨(o+(R0:Int)).toNat,by omega⟩
 obtain ⟨d1,d2,hc⟩:=aDZ G u0 o1 hA
 exact ⟨u,o,s,p,t,q,A,d1,d2,h,m0,G,D,E,o1,hA,hc⟩
theorem Fl.pos {z:Int}{f T:Nat}{L:Int}{S I b:Nat}{u:ByteArray}{o:Int}{s:ByteArray}{p:Int}{t:ByteArray}{q:Int}{A:Nat}{d1 d2:Nat -> Dp}(h:Fl z f T L S I b u o s p t q A d1 d2):0<u.size:=h.g.pos.2 (pE (f:=f) L h.m0)
theorem Fl.rm {z:Int}{f T:Nat}{L:Int}{S I b:Nat}{u:ByteArray}{o:Int}{s:ByteArray}{p:Int}{t:ByteArray}{q:Int}{A:Nat}{d1 d2:Nat -> Dp}(h:Fl z f T L S I b u o s p t q A d1 d2):Rm (loF f L (mg S b)) (vlF f L (mg S b)) (hiF f L (mg S b)):=aEn h.fn.sf.fs.1 h.fn.m h.m0
theorem Fl.hd {z:Int}{f T:Nat}{L:Int}{S I b:Nat}{u:ByteArray}{o:Int}{s:ByteArray}{p:Int}{t:ByteArray}{q:Int}{A:Nat}{d1 d2:Nat -> Dp}(h:Fl z f T L S I b u o s p t q A d1 d2) {c:Bool}{v:ByteArray}{k:Int}{Z:Nat}(D:Dx v k Z):hdB c s p t q (v,k)=aY c (loF f L (mg S b)) (hiF f L (mg S b)) Z:=by
 unfold hdB aY
 rw [fJ D h.d,fJ D h.e]
theorem cU (n:Nat):0<10 ^ n:=Nat.pow_pos (by decide)
theorem Fl.rc {z:Int}{f T:Nat}{L:Int}{S I b:Nat}{u:ByteArray}{o:Int}{s:ByteArray}{p:Int}{t:ByteArray}{q:Int}{A:Nat}{d1 d2:Nat -> Dp}(h:Fl z f T L S I b u o s p t q A d1 d2) {n:Nat}(n0:1<=n) (n1:n<=17):Dx (rC u d1 d2 n).1 (rC u d1 d2 n).2 (rnU (vlF f L (mg S b)) (10 ^ (A - n))):=by
 obtain ⟨c1,_,c3,c4⟩:=h.c n n0 n1
 have e:=aBg h.g h.pos h.hA n0
 unfold rC rnU
 by_cases q:n<u.size/\upB u false n=true
 . rw [if_pos q,if_pos (e.1 q)];exact c4
 . rw [if_neg q,if_neg (fun g=>q (e.2 g)),c1];exact c3
def fD (c:Bool) (s:ByteArray) (p:Int) (t:ByteArray) (q:Int) (u:ByteArray) (d1 d2:Nat -> Dp) (n:Nat):Option Dp:=[rC u d1 d2 n,d2 n].find? (hdB c s p t q)
theorem aA8 (c:Bool) (s:ByteArray) (p:Int) (t:ByteArray) (q:Int) (u:ByteArray) (d1 d2:Nat -> Dp) (n:Nat):fD c s p t q u d1 d2 n=if hdB c s p t q (rC u d1 d2 n) then some (rC u d1 d2 n) else if hdB c s p t q (d2 n) then some (d2 n) else none:=by
 unfold fD
 rw [List.find?_cons,List.find?_cons,List.find?_nil]
 cases hdB c s p t q (rC u d1 d2 n) <;> cases hdB c s p t q (d2 n) <;> rfl
theorem Fl.pick {z : Int} {f T : Nat} {L : Int} {S I b : Nat} {u : ByteArray} {o : Int} {s : ByteArray} {p : Int} {t : ByteArray} {q : Int} {A : Nat} {d1 d2 : Nat → Dp} (h : Fl z f T L S I b u o s p t q A d1 d2) (c : Bool) {n : Nat} (n0 : 1 ≤ n) (n1 : n ≤ 17) :
    (fD c s p t q u d1 d2 n = none ∧ cS    c (loF f L (mg S b)) (hiF f L (mg S b)) (vlF f L (mg S b)) (10 ^ (A - n)) = none) ∨
    ∃ d Z, fD c s p t q u d1 d2 n = some d ∧ cS    c (loF f L (mg S b)) (hiF f L (mg S b)) (vlF f L (mg S b)) (10 ^ (A - n)) = some Z ∧ Dx d.1 d.2 Z ∧ hdB c s p t q d = true ∧ (d = d1 n ∨ d = d2 n) := by
  have R := h.rc n0 n1
  obtain ⟨c1, _, c3, c4⟩ := h.c n n0 n1
  have e1 := h.hd (c := c) R
  have e2 := h.hd (c := c) c4
  rw [aA8  ]
  unfold cS
  rw [← e1, ← e2]
  have way : rC u d1 d2 n = d1 n ∨ rC u d1 d2 n = d2 n := by
    unfold rC
    split
    · exact Or.inr rfl
    · exact Or.inl rfl
  cases a : hdB c s p t q (rC u d1 d2 n) with
  | true => exact Or.inr ⟨_, _, rfl, rfl, R, a, way⟩
  | false =>
    cases b : hdB c s p t q (d2 n) with
    | true => exact Or.inr ⟨_, _, rfl, rfl, c4, b, Or.inr rfl⟩
    | false => exact Or.inl ⟨rfl, rfl⟩
theorem Fl.doc {z : Int} {f T : Nat} {L : Int} {S I b : Nat} {u : ByteArray} {o : Int} {s : ByteArray} {p : Int} {t : ByteArray} {q : Int} {A : Nat} {d1 d2 : Nat → Dp} (h : Fl z f T L S I b u o s p t q A d1 d2) (c : Bool) {n : Nat} (n0 : 1 ≤ n) (n1 : n ≤ 17) :
    fD c s p t q u d1 d2 n = if hdB c s p t q (d1 n) then (if hdB c s p t q (d2 n) then some (rC u d1 d2 n) else some (d1 n)) else if hdB c s p t q (d2 n) then some (d2 n) else none := by
  obtain ⟨c1, _, c3, c4⟩ := h.c n n0 n1
  have e2 := h.hd (c := c) c4
  have e1 : hdB c s p t q (d1 n) = aY   c (loF f L (mg S b)) (hiF f L (mg S b)) (dnU (vlF f L (mg S b)) (10 ^ (A - n))) := by
    have k := h.hd (c := c) c3
    rw [← c1] at k
    exact k
  have e := aBg   h.g h.pos h.hA n0
  rw [aA8  ]
  unfold rC
  by_cases w : n < u.size ∧ upB u false n = true
  · rw [if_pos w]
    cases y : hdB c s p t q (d2 n) with
    | true => cases hdB c s p t q (d1 n) <;> rfl
    | false =>
      cases x : hdB c s p t q (d1 n) with
      | false => rfl
      | true =>
        exfalso
        rw [x] at e1
        rw [qX      h.rm (cU      _) (e.1 w) e1.symm] at e2
        rw [e2] at y
        cases y
  · rw [if_neg w]
    cases hdB c s p t q (d1 n) <;> cases hdB c s p t q (d2 n) <;> rfl
theorem Fl.none_iff {z:Int}{f T:Nat}{L:Int}{S I b:Nat}{u:ByteArray}{o:Int}{s:ByteArray}{p:Int}{t:ByteArray}{q:Int}{A:Nat}{d1 d2:Nat -> Dp}(h:Fl z f T L S I b u o s p t q A d1 d2) (c:Bool) {n:Nat}(n0:1<=n) (n1:n<=17):fD c s p t q u d1 d2 n=none ↔ eG c (loF f L (mg S b)) (hiF f L (mg S b)) (vlF f L (mg S b)) (10 ^ (A - n))=false:=by
 rw [<- xB h.rm (cU _)]
 rcases h.pick c n0 n1 with ⟨a,b⟩ | ⟨d,Z,a,b,_⟩
 . exact ⟨fun _=>b,fun _=>a⟩
 . rw [a,b]
   exact ⟨fun k=>(by cases k),fun k=>(by cases k)⟩
theorem Fl.mono {z : Int} {f T : Nat} {L : Int} {S I b : Nat} {u : ByteArray} {o : Int} {s : ByteArray} {p : Int} {t : ByteArray} {q : Int} {A : Nat} {d1 d2 : Nat → Dp} (h : Fl z f T L S I b u o s p t q A d1 d2) (c : Bool) {n m : Nat} (n0 : 1 ≤ n) (nm : n ≤ m) (m1 : m ≤ 17) (a : fD c s p t q u d1 d2 m = none) : fD c s p t q u d1 d2 n = none := by
  rw [h.none_iff c (by omega) m1] at a
  rw [h.none_iff c n0 (by omega)]
  cases k : eG   c (loF f L (mg S b)) (hiF f L (mg S b)) (vlF f L (mg S b)) (10 ^ (A - n)) with
  | false => rfl
  | true =>
    rw [yV       h.rm (cU      (A - m)) (Nat.pow_dvd_pow 10 (by omega)) k] at a
    cases a
theorem Fl.there {z : Int} {f T : Nat} {L : Int} {S I b : Nat} {u : ByteArray} {o : Int} {s : ByteArray} {p : Int} {t : ByteArray} {q : Int} {A : Nat} {d1 d2 : Nat → Dp} (h : Fl z f T L S I b u o s p t q A d1 d2) (c : Bool) {N : Nat} (hN : 2 ^ (f + 1) ≤ 10 ^ (N - 1)) (N0 : 1 ≤ N) (N1 : N ≤ 17) : ∃ d, fD c s p t q u d1 d2 N = some d := by
  cases k : fD c s p t q u d1 d2 N with
  | some d => exact ⟨d, rfl⟩
  | none =>
    exfalso
    rw [h.none_iff c N0 N1] at k
    unfold eG   at k
    rw [Bool.or_eq_false_iff] at k
    have low := (h.g.some h.pos).2.1
    rw [h.hA, show ((A : Int) - 1).toNat = A - 1 by omega] at low
    have r := h.rm
    have e1 := sY    (vlF f L (mg S b)) (10 ^ (A - N))
    have e2 := gP    (X := vlF f L (mg S b)) (cU      (A - N))
    rcases nH           h.fn.sf.fs.1 hN N0 h.m0 h.fn.m low with q | q
    · have q' : loF f L (mg S b) < dnU (vlF f L (mg S b)) (10 ^ (A - N)) := q
      have w : aY   c (loF f L (mg S b)) (hiF f L (mg S b)) (dnU (vlF f L (mg S b)) (10 ^ (A - N))) = true := by
        rw [cM      ]
        have := r.above
        cases c
        · exact Or.inr ⟨rfl, by omega, by omega⟩
        · exact Or.inl ⟨rfl, by omega, by omega⟩
      rw [w] at k
      cases k.1
    · have q' : upU (vlF f L (mg S b)) (10 ^ (A - N)) < hiF f L (mg S b) := q
      have w : aY   c (loF f L (mg S b)) (hiF f L (mg S b)) (upU (vlF f L (mg S b)) (10 ^ (A - N))) = true := by
        rw [cM      ]
        have := r.below
        cases c
        · exact Or.inr ⟨rfl, by omega, by omega⟩
        · exact Or.inl ⟨rfl, by omega, by omega⟩
      rw [w] at k
      cases k.2
theorem lB         {capv : Value} {J : World → Prop} (hJ : ∀ W W', J W → Below W.heap.size W W' → J W') {s t : ByteArray} {p q : Int} {c : Bool} (hs : VD s p false) (ht : VD t q false) {few many len : Nat} (fm : few ≤ many) (hm : many ≤ 800) (hl : len ≤ 2) {cand : Nat → List Dp} (hc : ∀ n, (cand n).length = len) (hv : ∀ n, few ≤ n → n ≤ many → ∀ d ∈ cand n, VD d.1 d.2 false)
    (HT : ∀ n, few ≤ n → n ≤ many → ∀ W, J W → Calls Tryz.prog 64 #[.int .i64 (n : Int), capv] W fun e w' => ∃ a : Nat, e = .returned (.slice (some ⟨a, 0, none⟩) len len) ∧ DRow w' a (cand n) ∧ Below W.heap.size W w') (w : World) (j0 : J w) :
    Calls Tryz.prog 52 #[.agg #[.string s, .int .i64 p, .bool false, .string t, .int .i64 q, .bool false, .bool c], .int .i64 (few : Int), .int .i64 (many : Int), .func (.func 64) #[] #[capv]] w fun x w' => x = .returned (fG   (aX    (hdB c s p t q) cand few (many + 1 - few))) ∧ Below w.heap.size w w' := by
  obtain ⟨R, hR⟩ : ∃ R, R = aX    (hdB c s p t q) cand few (many + 1 - few) := ⟨_, rfl⟩
  rw [← hR]
  have HR : Hid (aX    (hdB c s p t q) cand few (many + 1 - few) = R) := hR.symm
  have HJ : Hid ((∀ W W', J W → Below W.heap.size W W' → J W') ∧ J w) := ⟨hJ, j0⟩
  have HV : Hid (∀ n, few ≤ n → n ≤ many → ∀ d ∈ cand n, VD d.1 d.2 false) := hv
  have HL : Hid (∀ n, (cand n).length = len) := hc
  have HVD : Hid (VD s p false ∧ VD t q false) := ⟨hs, ht⟩
  have HTT : Hid (∀ n, few ≤ n → n ≤ many → ∀ W, J W → Calls Tryz.prog 64 #[.int .i64 (n : Int), capv] W fun e w' => ∃ a : Nat, e = .returned (.slice (some ⟨a, 0, none⟩) len len) ∧ DRow w' a (cand n) ∧ Below W.heap.size W w') := HT
  clear hR hJ j0 hv hc hs ht HT
  have F0 : Hid (Bk (((w.alloc (.cells #[.string s, .int .i64 p, .bool false, .string t, .int .i64 q, .bool false, .bool c] 59)).alloc (.cells #[.string ⟨#[]⟩, .int .i64 0, .bool false] 24)).alloc (.cells #[.string ⟨#[]⟩, .int .i64 0, .bool false] 24)) (w.heap.size) [.string s, .int .i64 p, .bool false, .string t, .int .i64 q, .bool false, .bool c] ∧ Bk (((w.alloc (.cells #[.string s, .int .i64 p, .bool false, .string t, .int .i64 q, .bool false, .bool c] 59)).alloc (.cells #[.string ⟨#[]⟩, .int .i64 0, .bool false] 24)).alloc (.cells #[.string ⟨#[]⟩, .int .i64 0, .bool false] 24)) (w.heap.size + 1) [.string ⟨#[]⟩, .int .i64 0, .bool false] ∧ Bk (((w.alloc (.cells #[.string s, .int .i64 p, .bool false, .string t, .int .i64 q, .bool false, .bool c] 59)).alloc (.cells #[.string ⟨#[]⟩, .int .i64 0, .bool false] 24)).alloc (.cells #[.string ⟨#[]⟩, .int .i64 0, .bool false] 24)) (w.heap.size + 1 + 1) [.string ⟨#[]⟩, .int .i64 0, .bool false] ∧ Below w.heap.size w (((w.alloc (.cells #[.string s, .int .i64 p, .bool false, .string t, .int .i64 q, .bool false, .bool c] 59)).alloc (.cells #[.string ⟨#[]⟩, .int .i64 0, .bool false] 24)).alloc (.cells #[.string ⟨#[]⟩, .int .i64 0, .bool false] 24))) := ⟨((Bk.new7 w (.string s) (.int .i64 p) (.bool false) (.string t) (.int .i64 q) (.bool false) (.bool c) 59).step ((Below.refl _ _).alloc (Nat.le_refl _) _)).step ((Below.refl _ _).alloc (Nat.le_refl _) _), (((by have q := Bk.new3 (w.alloc (.cells #[.string s, .int .i64 p, .bool false, .string t, .int .i64 q, .bool false, .bool c] 59)) (.string ⟨#[]⟩) (.int .i64 0) (.bool false) 24; simpa using q) : Bk ((w.alloc (.cells #[.string s, .int .i64 p, .bool false, .string t, .int .i64 q, .bool false, .bool c] 59)).alloc (.cells #[.string ⟨#[]⟩, .int .i64 0, .bool false] 24)) (w.heap.size + 1) [.string ⟨#[]⟩, .int .i64 0, .bool false])).step ((Below.refl _ _).alloc (Nat.le_refl _) _), ((by have q := Bk.new3 ((w.alloc (.cells #[.string s, .int .i64 p, .bool false, .string t, .int .i64 q, .bool false, .bool c] 59)).alloc (.cells #[.string ⟨#[]⟩, .int .i64 0, .bool false] 24)) (.string ⟨#[]⟩) (.int .i64 0) (.bool false) 24; simpa using q) : Bk (((w.alloc (.cells #[.string s, .int .i64 p, .bool false, .string t, .int .i64 q, .bool false, .bool c] 59)).alloc (.cells #[.string ⟨#[]⟩, .int .i64 0, .bool false] 24)).alloc (.cells #[.string ⟨#[]⟩, .int .i64 0, .bool false] 24)) (w.heap.size + 1 + 1) [.string ⟨#[]⟩, .int .i64 0, .bool false]), ((((Below.refl w.heap.size w)).alloc (Nat.le_refl _) _).alloc ((((Below.refl w.heap.size w)).alloc (Nat.le_refl _) _).size) _).alloc (((((Below.refl w.heap.size w)).alloc (Nat.le_refl _) _).alloc ((((Below.refl w.heap.size w)).alloc (Nat.le_refl _) _).size) _).size) _⟩
  go_enter Tryz.func52, Tryz.ntmps52
  have IB : Hid (Bk (((w.alloc (.cells #[.string s, .int .i64 p, .bool false, .string t, .int .i64 q, .bool false, .bool c] 59)).alloc (.cells #[.string ⟨#[]⟩, .int .i64 0, .bool false] 24)).alloc (.cells #[.string ⟨#[]⟩, .int .i64 0, .bool false] 24)) (w.heap.size) [.string s, .int .i64 p, .bool false, .string t, .int .i64 q, .bool false, .bool c] ∧ Bk (((w.alloc (.cells #[.string s, .int .i64 p, .bool false, .string t, .int .i64 q, .bool false, .bool c] 59)).alloc (.cells #[.string ⟨#[]⟩, .int .i64 0, .bool false] 24)).alloc (.cells #[.string ⟨#[]⟩, .int .i64 0, .bool false] 24)) (w.heap.size + 1) [.string ⟨#[]⟩, .int .i64 0, .bool false] ∧ Bk (((w.alloc (.cells #[.string s, .int .i64 p, .bool false, .string t, .int .i64 q, .bool false, .bool c] 59)).alloc (.cells #[.string ⟨#[]⟩, .int .i64 0, .bool false] 24)).alloc (.cells #[.string ⟨#[]⟩, .int .i64 0, .bool false] 24)) (w.heap.size + 1 + 1) [.string ⟨#[]⟩, .int .i64 0, .bool false] ∧ Below w.heap.size w (((w.alloc (.cells #[.string s, .int .i64 p, .bool false, .string t, .int .i64 q, .bool false, .bool c] 59)).alloc (.cells #[.string ⟨#[]⟩, .int .i64 0, .bool false] 24)).alloc (.cells #[.string ⟨#[]⟩, .int .i64 0, .bool false] 24))) := F0.out
  clear F0
  go_wp2
  go_step3
  go_wp2
  go_step3
  go_wp2
  go_loopg [11, 12, 14] (many + 1 - few) (fun g okv iv _ wr => ∃ n : Nat, okv = .bool false ∧ iv = .int .i64 (n : Int) ∧ few ≤ n ∧ n + g = many + 1 ∧ Hid (Bk wr (w.heap.size) [.string s, .int .i64 p, .bool false, .string t, .int .i64 q, .bool false, .bool c] ∧ Bk wr (w.heap.size + 1) [.string ⟨#[]⟩, .int .i64 0, .bool false] ∧ Bk wr (w.heap.size + 1 + 1) [.string ⟨#[]⟩, .int .i64 0, .bool false] ∧ Below w.heap.size w wr) ∧ Hid (aX    (hdB c s p t q) cand n g = R))
  case atStart => exact ⟨few, rfl, rfl, Nat.le_refl _, by omega, IB.out, HR.out⟩
  case round =>
    obtain ⟨n, rfl, rfl, hn, hng, HB, HS⟩ := hrel
    clear IB HR
    cases gk with
    | zero =>
      have F50 := HB
      clear HB
      have n1 : ¬ (n : Int) ≤ (many : Int) := by omega
      have e : R = none := HS.out.symm
      subst e
      have l1_0 := F50.out.1.lt
      have a1_0_0 := F50.out.1.cell 0 _ rfl
      have f1_0_0 := F50.out.1.fz 0
      have a1_0_1 := F50.out.1.cell 1 _ rfl
      have f1_0_1 := F50.out.1.fz 1
      have a1_0_2 := F50.out.1.cell 2 _ rfl
      have f1_0_2 := F50.out.1.fz 2
      have a1_0_3 := F50.out.1.cell 3 _ rfl
      have f1_0_3 := F50.out.1.fz 3
      have a1_0_4 := F50.out.1.cell 4 _ rfl
      have f1_0_4 := F50.out.1.fz 4
      have a1_0_5 := F50.out.1.cell 5 _ rfl
      have f1_0_5 := F50.out.1.fz 5
      have a1_0_6 := F50.out.1.cell 6 _ rfl
      have f1_0_6 := F50.out.1.fz 6
      have l1_1 := F50.out.2.1.lt
      have a1_1_0 := F50.out.2.1.cell 0 _ rfl
      have f1_1_0 := F50.out.2.1.fz 0
      have a1_1_1 := F50.out.2.1.cell 1 _ rfl
      have f1_1_1 := F50.out.2.1.fz 1
      have a1_1_2 := F50.out.2.1.cell 2 _ rfl
      have f1_1_2 := F50.out.2.1.fz 2
      have l1_2 := F50.out.2.2.1.lt
      have a1_2_0 := F50.out.2.2.1.cell 0 _ rfl
      have f1_2_0 := F50.out.2.2.1.fz 0
      have a1_2_1 := F50.out.2.2.1.cell 1 _ rfl
      have f1_2_1 := F50.out.2.2.1.fz 1
      have a1_2_2 := F50.out.2.2.1.cell 2 _ rfl
      have f1_2_2 := F50.out.2.2.1.fz 2
      have ne1_0_1 : ¬ w.heap.size = w.heap.size + 1 := by omega
      have ne1_0_2 : ¬ w.heap.size = w.heap.size + 1 + 1 := by omega
      have ne1_1_0 : ¬ w.heap.size + 1 = w.heap.size := by omega
      have ne1_1_2 : ¬ w.heap.size + 1 = w.heap.size + 1 + 1 := by omega
      have ne1_2_0 : ¬ w.heap.size + 1 + 1 = w.heap.size := by omega
      have ne1_2_1 : ¬ w.heap.size + 1 + 1 = w.heap.size + 1 := by omega
      go_wp2
      try rw [Exit.noGoto_ret]
      refine bodyPost_ret (v := .tuple #[.agg #[.string ⟨#[]⟩, .int .i64 0, .bool false], .bool false]) (by simp [results, Tryz.results52, go_sem, World.cell?_setCell_same, World.cell?_setCell_other, *]) rfl ⟨rfl, ?_⟩
      repeat (first | refine Below.setCell ?_ (by first | exact Nat.le_refl _ | (dsimp only; omega)) _ | refine Below.alloc ?_ (by first | exact Nat.le_refl _ | omega | (simp; omega)) _ | refine Below.drew ?_)
      exact F50.out.2.2.2
    | succ g =>
      have F50 := HB
      clear HB
      have n1 : (n : Int) ≤ (many : Int) := by omega
      have HTn := HTT.out n hn (by omega) _ (HJ.out.1 _ _ HJ.out.2 F50.out.2.2.2)
      go_wp2_with fail
      all_goals first | (exfalso; omega) | skip
      refine (HTn).mono ?_
      rintro o21 w21 ⟨a, rfl, dr, bb⟩
      have F51 : Hid (Bk w21 (w.heap.size) [.string s, .int .i64 p, .bool false, .string t, .int .i64 q, .bool false, .bool c] ∧ Bk w21 (w.heap.size + 1) [.string ⟨#[]⟩, .int .i64 0, .bool false] ∧ Bk w21 (w.heap.size + 1 + 1) [.string ⟨#[]⟩, .int .i64 0, .bool false] ∧ Below w.heap.size w w21) := ⟨(F50.out.1).step bb, (F50.out.2.1).step bb, (F50.out.2.2.1).step bb, (F50.out.2.2.2).trans (bb.mono (F50.out.2.2.2).size)⟩
      clear F50
      clear bb
      have DR : Hid (DRow w21 a (cand n)) := dr
      clear dr HTn
      have IB2 : Hid (Bk w21 (w.heap.size) [.string s, .int .i64 p, .bool false, .string t, .int .i64 q, .bool false, .bool c] ∧ Bk w21 (w.heap.size + 1) [.string ⟨#[]⟩, .int .i64 0, .bool false] ∧ Bk w21 (w.heap.size + 1 + 1) [.string ⟨#[]⟩, .int .i64 0, .bool false] ∧ DRow w21 a (cand n) ∧ Below w.heap.size w w21) := ⟨F51.out.1, F51.out.2.1, F51.out.2.2.1, DR.out, F51.out.2.2.2⟩
      clear F51 DR
      go_wp2
      go_loopg [11, 14, 25] len (fun g2 okv _ jv wy => ∃ j : Nat, okv = .bool false ∧ jv = .int .i64 (j : Int) ∧ j + g2 = len ∧ Hid (Bk wy (w.heap.size) [.string s, .int .i64 p, .bool false, .string t, .int .i64 q, .bool false, .bool c] ∧ Bk wy (w.heap.size + 1) [.string ⟨#[]⟩, .int .i64 0, .bool false] ∧ Bk wy (w.heap.size + 1 + 1) [.string ⟨#[]⟩, .int .i64 0, .bool false] ∧ DRow wy a (cand n) ∧ Below w.heap.size w wy) ∧ Hid (((cand n).drop j).find? (hdB c s p t q) = (cand n).find? (hdB c s p t q)))
      case atStart => exact ⟨0, rfl, rfl, by omega, IB2.out, rfl⟩
      case round =>
        obtain ⟨j, rfl, rfl, hj, HB, HF⟩ := hrel
        clear IB2
        cases gk with
        | zero =>
          have j1 : ¬ (j : Int) < (len : Int) := by omega
          have e : (cand n).find? (hdB c s p t q) = none := by
            rw [← HF.out, List.drop_eq_nil_of_le (by have := HL.out n; omega)]
            rfl
          have HS2 : Hid (aX    (hdB c s p t q) cand (n + 1) g = R) := by
            have := HS.out
            unfold aX    at this
            rw [e] at this
            exact this
          clear HS e
          go_wp2
          go_roundg g
          case measure => omega
          case rel => exact ⟨n + 1, rfl, by go_num, by omega, by omega, ⟨HB.out.1, HB.out.2.1, HB.out.2.2.1, HB.out.2.2.2.2⟩, HS2.out⟩
        | succ g2 =>
            have j1 : (j : Int) < (len : Int) := by omega
            have ij : ((j : Int)).toNat = j := by omega
            obtain ⟨d, hd⟩ : ∃ d, (cand n)[j]? = some d := ⟨_, List.getElem?_eq_getElem (by have := HL.out n; omega)⟩
            obtain ⟨d1, d2⟩ := d
            have HH := fun W => oW       (c := c) HVD.out.1 HVD.out.2 (HV.out n hn (by omega) _ (List.mem_of_getElem? hd)) W
            have HFD : Hid (((cand n).drop j).find? (hdB c s p t q) = if hdB c s p t q (d1, d2) then some (d1, d2) else ((cand n).drop (j + 1)).find? (hdB c s p t q)) := mD        (hb := hdB c s p t q) hd
            have F80 := HB
            have hdl := HB.out.2.2.2.1.lt
            obtain ⟨ca, cb, cc⟩ := HB.out.2.2.2.1.cell j _ hd
            dsimp only at ca cb cc HH
            clear HB hd
            have lt0_4 := (F80.out.1).lt
            have lt1_4 := (F80.out.2.1).lt
            have lt2_4 := (F80.out.2.2.1).lt
            have lt3_4 := (F80.out.2.2.2.1).lt
            have le4 := (F80.out.2.2.2.2).size
            have F81 : Hid (Bk (wr.alloc (.cells #[.string d1, .int .i64 d2, .bool false] 24)) (w.heap.size) [.string s, .int .i64 p, .bool false, .string t, .int .i64 q, .bool false, .bool c] ∧ Bk (wr.alloc (.cells #[.string d1, .int .i64 d2, .bool false] 24)) (w.heap.size + 1) [.string ⟨#[]⟩, .int .i64 0, .bool false] ∧ Bk (wr.alloc (.cells #[.string d1, .int .i64 d2, .bool false] 24)) (w.heap.size + 1 + 1) [.string ⟨#[]⟩, .int .i64 0, .bool false] ∧ DRow (wr.alloc (.cells #[.string d1, .int .i64 d2, .bool false] 24)) a (cand n) ∧ Bk (wr.alloc (.cells #[.string d1, .int .i64 d2, .bool false] 24)) (wr.heap.size) [.string d1, .int .i64 d2, .bool false] ∧ Below w.heap.size w (wr.alloc (.cells #[.string d1, .int .i64 d2, .bool false] 24))) := ⟨(F80.out.1).step ((Below.refl _ _).alloc (Nat.le_refl _) _), (F80.out.2.1).step ((Below.refl _ _).alloc (Nat.le_refl _) _), (F80.out.2.2.1).step ((Below.refl _ _).alloc (Nat.le_refl _) _), (F80.out.2.2.2.1).step ((Below.refl _ _).alloc (Nat.le_refl _) _), Bk.new3 wr (.string d1) (.int .i64 d2) (.bool false) 24, (F80.out.2.2.2.2).alloc ((F80.out.2.2.2.2).size) _⟩
            clear F80
            go_upto_region 9 with fail
            generalize (wr.alloc (.cells #[.string d1, .int .i64 d2, .bool false] 24)) = w41 at *
            clear ca cb cc
            have l1_0 := F81.out.1.lt
            have a1_0_0 := F81.out.1.cell 0 _ rfl
            have f1_0_0 := F81.out.1.fz 0
            have a1_0_1 := F81.out.1.cell 1 _ rfl
            have f1_0_1 := F81.out.1.fz 1
            have a1_0_2 := F81.out.1.cell 2 _ rfl
            have f1_0_2 := F81.out.1.fz 2
            have a1_0_3 := F81.out.1.cell 3 _ rfl
            have f1_0_3 := F81.out.1.fz 3
            have a1_0_4 := F81.out.1.cell 4 _ rfl
            have f1_0_4 := F81.out.1.fz 4
            have a1_0_5 := F81.out.1.cell 5 _ rfl
            have f1_0_5 := F81.out.1.fz 5
            have a1_0_6 := F81.out.1.cell 6 _ rfl
            have f1_0_6 := F81.out.1.fz 6
            have l1_1 := F81.out.2.1.lt
            have a1_1_0 := F81.out.2.1.cell 0 _ rfl
            have f1_1_0 := F81.out.2.1.fz 0
            have a1_1_1 := F81.out.2.1.cell 1 _ rfl
            have f1_1_1 := F81.out.2.1.fz 1
            have a1_1_2 := F81.out.2.1.cell 2 _ rfl
            have f1_1_2 := F81.out.2.1.fz 2
            have l1_2 := F81.out.2.2.1.lt
            have a1_2_0 := F81.out.2.2.1.cell 0 _ rfl
            have f1_2_0 := F81.out.2.2.1.fz 0
            have a1_2_1 := F81.out.2.2.1.cell 1 _ rfl
            have f1_2_1 := F81.out.2.2.1.fz 1
            have a1_2_2 := F81.out.2.2.1.cell 2 _ rfl
            have f1_2_2 := F81.out.2.2.1.fz 2
            have l1_4 := F81.out.2.2.2.2.1.lt
            have a1_4_0 := F81.out.2.2.2.2.1.cell 0 _ rfl
            have f1_4_0 := F81.out.2.2.2.2.1.fz 0
            have a1_4_1 := F81.out.2.2.2.2.1.cell 1 _ rfl
            have f1_4_1 := F81.out.2.2.2.2.1.fz 1
            have a1_4_2 := F81.out.2.2.2.2.1.cell 2 _ rfl
            have f1_4_2 := F81.out.2.2.2.2.1.fz 2
            have ne1_0_1 : ¬ w.heap.size = w.heap.size + 1 := by omega
            have ne1_0_2 : ¬ w.heap.size = w.heap.size + 1 + 1 := by omega
            have ne1_0_4 : ¬ w.heap.size = wr.heap.size := by omega
            have ne1_1_0 : ¬ w.heap.size + 1 = w.heap.size := by omega
            have ne1_1_2 : ¬ w.heap.size + 1 = w.heap.size + 1 + 1 := by omega
            have ne1_1_4 : ¬ w.heap.size + 1 = wr.heap.size := by omega
            have ne1_2_0 : ¬ w.heap.size + 1 + 1 = w.heap.size := by omega
            have ne1_2_1 : ¬ w.heap.size + 1 + 1 = w.heap.size + 1 := by omega
            have ne1_2_4 : ¬ w.heap.size + 1 + 1 = wr.heap.size := by omega
            have ne1_4_0 : ¬ wr.heap.size = w.heap.size := by omega
            have ne1_4_1 : ¬ wr.heap.size = w.heap.size + 1 := by omega
            have ne1_4_2 : ¬ wr.heap.size = w.heap.size + 1 + 1 := by omega
            go_wp2_with fail
            all_goals first | (exfalso; omega) | skip
            refine (HH _).mono ?_
            rintro o42 w42 ⟨rfl, bb⟩
            have F82 : Hid (Bk w42 (w.heap.size) [.string s, .int .i64 p, .bool false, .string t, .int .i64 q, .bool false, .bool c] ∧ Bk w42 (w.heap.size + 1) [.string ⟨#[]⟩, .int .i64 0, .bool false] ∧ Bk w42 (w.heap.size + 1 + 1) [.string ⟨#[]⟩, .int .i64 0, .bool false] ∧ DRow w42 a (cand n) ∧ Bk w42 (wr.heap.size) [.string d1, .int .i64 d2, .bool false] ∧ Below w.heap.size w w42) := ⟨(F81.out.1).step bb, (F81.out.2.1).step bb, (F81.out.2.2.1).step bb, (F81.out.2.2.2.1).step bb, (F81.out.2.2.2.2.1).step bb, (F81.out.2.2.2.2.2).trans (bb.mono (F81.out.2.2.2.2.2).size)⟩
            clear F81
            clear bb
            clear l1_0 a1_0_0 f1_0_0 a1_0_1 f1_0_1 a1_0_2 f1_0_2 a1_0_3 f1_0_3 a1_0_4 f1_0_4 a1_0_5 f1_0_5 a1_0_6 f1_0_6 l1_1 a1_1_0 f1_1_0 a1_1_1 f1_1_1 a1_1_2 f1_1_2 l1_2 a1_2_0 f1_2_0 a1_2_1 f1_2_1 a1_2_2 f1_2_2 l1_4 a1_4_0 f1_4_0 a1_4_1 f1_4_1 a1_4_2 f1_4_2
            generalize hdB c s p t q (d1, d2) = r at *
            cases r with
            | true =>
                have e : (cand n).find? (hdB c s p t q) = some (d1, d2) := by
                  rw [← HF.out, HFD.out]
                  rfl
                have e2 : R = some (d1, d2) := by
                  have := HS.out
                  unfold aX    at this
                  rw [e] at this
                  exact this.symm
                subst e2
                clear e HS
                have l2_0 := F82.out.1.lt
                have a2_0_0 := F82.out.1.cell 0 _ rfl
                have f2_0_0 := F82.out.1.fz 0
                have a2_0_1 := F82.out.1.cell 1 _ rfl
                have f2_0_1 := F82.out.1.fz 1
                have a2_0_2 := F82.out.1.cell 2 _ rfl
                have f2_0_2 := F82.out.1.fz 2
                have a2_0_3 := F82.out.1.cell 3 _ rfl
                have f2_0_3 := F82.out.1.fz 3
                have a2_0_4 := F82.out.1.cell 4 _ rfl
                have f2_0_4 := F82.out.1.fz 4
                have a2_0_5 := F82.out.1.cell 5 _ rfl
                have f2_0_5 := F82.out.1.fz 5
                have a2_0_6 := F82.out.1.cell 6 _ rfl
                have f2_0_6 := F82.out.1.fz 6
                have l2_1 := F82.out.2.1.lt
                have a2_1_0 := F82.out.2.1.cell 0 _ rfl
                have f2_1_0 := F82.out.2.1.fz 0
                have a2_1_1 := F82.out.2.1.cell 1 _ rfl
                have f2_1_1 := F82.out.2.1.fz 1
                have a2_1_2 := F82.out.2.1.cell 2 _ rfl
                have f2_1_2 := F82.out.2.1.fz 2
                have l2_2 := F82.out.2.2.1.lt
                have a2_2_0 := F82.out.2.2.1.cell 0 _ rfl
                have f2_2_0 := F82.out.2.2.1.fz 0
                have a2_2_1 := F82.out.2.2.1.cell 1 _ rfl
                have f2_2_1 := F82.out.2.2.1.fz 1
                have a2_2_2 := F82.out.2.2.1.cell 2 _ rfl
                have f2_2_2 := F82.out.2.2.1.fz 2
                have l2_4 := F82.out.2.2.2.2.1.lt
                have a2_4_0 := F82.out.2.2.2.2.1.cell 0 _ rfl
                have f2_4_0 := F82.out.2.2.2.2.1.fz 0
                have a2_4_1 := F82.out.2.2.2.2.1.cell 1 _ rfl
                have f2_4_1 := F82.out.2.2.2.2.1.fz 1
                have a2_4_2 := F82.out.2.2.2.2.1.cell 2 _ rfl
                have f2_4_2 := F82.out.2.2.2.2.1.fz 2
                have ne2_0_1 : ¬ w.heap.size = w.heap.size + 1 := by omega
                have ne2_0_2 : ¬ w.heap.size = w.heap.size + 1 + 1 := by omega
                have ne2_0_4 : ¬ w.heap.size = wr.heap.size := by omega
                have ne2_1_0 : ¬ w.heap.size + 1 = w.heap.size := by omega
                have ne2_1_2 : ¬ w.heap.size + 1 = w.heap.size + 1 + 1 := by omega
                have ne2_1_4 : ¬ w.heap.size + 1 = wr.heap.size := by omega
                have ne2_2_0 : ¬ w.heap.size + 1 + 1 = w.heap.size := by omega
                have ne2_2_1 : ¬ w.heap.size + 1 + 1 = w.heap.size + 1 := by omega
                have ne2_2_4 : ¬ w.heap.size + 1 + 1 = wr.heap.size := by omega
                have ne2_4_0 : ¬ wr.heap.size = w.heap.size := by omega
                have ne2_4_1 : ¬ wr.heap.size = w.heap.size + 1 := by omega
                have ne2_4_2 : ¬ wr.heap.size = w.heap.size + 1 + 1 := by omega
                go_wp2
                try rw [Exit.noGoto_ret]
                refine bodyPost_ret (v := .tuple #[.agg #[.string d1, .int .i64 d2, .bool false], .bool true]) (by simp [results, Tryz.results52, go_sem, World.cell?_setCell_same, World.cell?_setCell_other, *]) rfl ⟨rfl, ?_⟩
                repeat (first | refine Below.setCell ?_ (by first | exact Nat.le_refl _ | (dsimp only; omega)) _ | refine Below.alloc ?_ (by first | exact Nat.le_refl _ | omega | (simp; omega)) _ | refine Below.drew ?_)
                exact F82.out.2.2.2.2.2
            | false =>
                have HF2 : Hid (((cand n).drop (j + 1)).find? (hdB c s p t q) = (cand n).find? (hdB c s p t q)) := by
                  show _ = _
                  rw [← HF.out, HFD.out]
                  rfl
                clear HF HFD
                go_wp2
                go_roundg g2
                case measure => omega
                case rel => exact ⟨j + 1, rfl, by go_num, by omega, ⟨F82.out.1, F82.out.2.1, F82.out.2.2.1, F82.out.2.2.2.1, F82.out.2.2.2.2.2⟩, HF2.out⟩
structure BR (W:World) (g n:Nat) (F:Nat -> Nat):Prop where
 lt:g<W.heap.size
 row:BRow W g n F
theorem BR.step {W W':World}{g n:Nat}{F:Nat -> Nat}(h:BR W g n F) (hb:Bl W W'):BR W' g n F :=
 ⟨Nat.lt_of_lt_of_le h.lt hb.size,fun i hi=>(hb.cell (p:=⟨g,i,none⟩) h.lt).trans (h.row.cell i hi),fun i hi=>(hb.frozen (p:=⟨g,i,none⟩) h.lt).trans (h.row.fr i hi)⟩
theorem BR.set {W:World}{g n:Nat}{F:Nat -> Nat}(h:BR W g n F) {i:Nat}(hi:i<n) (r:Nat):BR (W.setCell ⟨g,i,none⟩ (.int .u8 (r:Int))) g n (aJ F i r) :=
 ⟨by rw [World.size_setCell];exact h.lt,h.row.set hi r⟩
theorem Bk.setC {W:World}{K:Nat}{l:List Value}(h:Bk W K l) {g:Nat}(hne:¬ K=g) (i:Nat) (v:Value):Bk (W.setCell ⟨g,i,none⟩ v) K l :=
 ⟨by rw [World.size_setCell];exact h.lt,fun j x q=>(World.cell?_setCell_other W ⟨g,i,none⟩ ⟨K,j,none⟩ v (by intro z;injection z with z _ _;exact hne z.symm)).trans (h.cell j x q),fun j=>by rw [World.frozen?_setCell];exact h.fz j⟩
theorem mZ (U:World) (t:ByteArray) (hs:t.size<=100000):∃ W1 C,(Go.convert 9 88 (.string t)).run Tryz.prog U=.ok (.slice (some ⟨U.heap.size,0,none⟩) t.size C) W1/\t.size<=C/\C<=maxLen/\Bl U W1/\BR W1 U.heap.size t.size (dgt t):=by
 have hL:=Lib.run_convert_string_bytes (P:=Tryz.prog) U 9 88 5 t bZ aU dC
 have bU:Bl U (Lib.bytesWorld U 5 t):=⟨rfl,rfl,rfl,by rw [Lib.bytesWorld_size];omega,fun k hk=>Lib.bytesWorld_at_old U 5 t k hk⟩
 refine ⟨Lib.bytesWorld U 5 t,grownCap U t.size 0 5,hL,grownCap_ge _ _ _ _,grownCap_le_maxLen _ _ _ _ (Nat.le_trans hs (by decide)),bU,⟨by rw [Lib.bytesWorld_size];omega,fun i hi=>?_,fun i hi=>?_⟩⟩
 . have q:=Lib.bytesWorld_cell U 5 t i hi
   rw [eN hi] at q
   exact q
 . have q:=Lib.bytesWorld_at_new U 5 t
   unfold World.frozen?
   rw [q]
   have z:¬ (Lib.bytesCells U 5 t).size<=i:=by
    unfold Lib.bytesCells
    simp
    omega
   simp [z]
theorem jW {W:World}{g n C:Nat}{F:Nat -> Nat}(h:BR W g n F) (hF:∀ i,i<n -> F i<256):∃ u:ByteArray,u.size=n/\(∀ i,i<n -> dgt u i=F i)/\∀ W',(∀ i,i<n -> W'.cell? ⟨g,i,none⟩=W.cell? ⟨g,i,none⟩) -> (Go.convert 88 9 (.slice (some ⟨g,0,none⟩) n C)).run Tryz.prog W'=.ok (.string u) W':=by
 have hU:=dK F n hF
 refine ⟨_,hU.1,hU.2,fun W' hW=>?_⟩
 refine run_convert_bytes_arg W' 88 5 aU dC g 0 n C _ (by simp) ?_ 9 bZ
 intro i hi
 have q:=h.row.cell i hi
 rw [Nat.zero_add,hW i hi,q]
 simp [List.getD_eq_getElem?_getD,hi]
def aP (s:ByteArray) (i:Nat):Nat:=if i=0 then 48 else dgt s (i - 1)
def dZ (s:ByteArray) (k i:Nat):Nat:=if i<k then aP s i else if i=k then aP s k+1 else 48
theorem nG {t s:ByteArray}{n:Nat}(h:t=⟨#[48]⟩ ++ s.extract 0 n) (hn:n<=s.size):t.size=n+1/\∀ i,i<n+1 -> dgt t i=aP s i:=by
 subst h
 have e:=aI (s:=s) (k:=n) hn
 have e1:(⟨#[48]⟩:ByteArray).size=1:=rfl
 have z:(⟨#[48]⟩ ++ s.extract 0 n:ByteArray).size=n+1:=by rw [ByteArray.size_append,e,e1];omega
 refine ⟨z,fun i hi=>?_⟩
 unfold aP
 by_cases c:i=0
 . subst c
   rw [if_pos rfl,aA (by omega),ByteArray.getElem_append_left (by rw [e1];omega)]
   rfl
 . rw [if_neg c,aA (by omega),ByteArray.getElem_append_right (by rw [e1];omega)]
   rw [<- aL (s:=s) (k:=n) hn (by omega),aA (by omega)]
   rfl
theorem aAQ {s t:ByteArray}{p q r:Int}{c:Bool}(h0:0<s.size) (q1:¬ 0<=r) (HC:∀ W,Cb 32 #[.agg #[.string s,vI p,.bool false],.agg #[.string t,vI q,.bool false]] W (.tuple #[vI r,.nilIface])) (HL:∀ W,Cb 33 #[.agg #[.string s,vI p,.bool false,.string t,vI q,.bool false,.bool c]] W (.tuple #[.agg #[.string ⟨#[]⟩,vI 0,.bool false],.bool false])) (w:World) :
 Cb 16 #[.agg #[.string s,vI p,.bool false],.agg #[.string t,vI q,.bool false],.bool c] w (.tuple #[.agg #[.string ⟨#[]⟩,vI 0,.bool false],.iface 69 (vI 4)]):=by
 have he:¬ s.toList=[]:=by
  intro z
  have e:=aB h0
  rw [z] at e
  exact absurd e (by decide)
 have F0:Hid (Bk (((w.alloc (.cells #[.string s,vI p,.bool false] 24)).alloc (.cells #[.string t,vI q,.bool false] 24)).alloc (.cells #[.string ⟨#[]⟩,vI 0,.bool false] 24)) (w.heap.size) [.string s,vI p,.bool false]/\Bk (((w.alloc (.cells #[.string s,vI p,.bool false] 24)).alloc (.cells #[.string t,vI q,.bool false] 24)).alloc (.cells #[.string ⟨#[]⟩,vI 0,.bool false] 24)) (w.heap.size+1) [.string t,vI q,.bool false]/\Bk (((w.alloc (.cells #[.string s,vI p,.bool false] 24)).alloc (.cells #[.string t,vI q,.bool false] 24)).alloc (.cells #[.string ⟨#[]⟩,vI 0,.bool false] 24)) (w.heap.size+1+1) [.string ⟨#[]⟩,vI 0,.bool false]/\Bl w (((w.alloc (.cells #[.string s,vI p,.bool false] 24)).alloc (.cells #[.string t,vI q,.bool false] 24)).alloc (.cells #[.string ⟨#[]⟩,vI 0,.bool false] 24))):=⟨((Bk.new3 w (.string s) (vI p) (.bool false) 24).step (bz _ _)).step (bz _ _),(((by have q:=Bk.new3 (w.alloc (.cells #[.string s,vI p,.bool false] 24)) (.string t) (vI q) (.bool false) 24;simpa using q):Bk ((w.alloc (.cells #[.string s,vI p,.bool false] 24)).alloc (.cells #[.string t,vI q,.bool false] 24)) (w.heap.size+1) [.string t,vI q,.bool false])).step (bz _ _),((by have q:=Bk.new3 ((w.alloc (.cells #[.string s,vI p,.bool false] 24)).alloc (.cells #[.string t,vI q,.bool false] 24)) (.string ⟨#[]⟩) (vI 0) (.bool false) 24;simpa using q):Bk (((w.alloc (.cells #[.string s,vI p,.bool false] 24)).alloc (.cells #[.string t,vI q,.bool false] 24)).alloc (.cells #[.string ⟨#[]⟩,vI 0,.bool false] 24)) (w.heap.size+1+1) [.string ⟨#[]⟩,vI 0,.bool false]),((((Below.refl w.heap.size w)).alloc (Nat.le_refl _) _).alloc ((((Below.refl w.heap.size w)).alloc (Nat.le_refl _) _).size) _).alloc (((((Below.refl w.heap.size w)).alloc (Nat.le_refl _) _).alloc ((((Below.refl w.heap.size w)).alloc (Nat.le_refl _) _).size) _).size) _⟩
 go_enter Tryz.func16,Tryz.ntmps16
 go_upto_region 1 with fail
 generalize (((w.alloc (.cells #[.string s,vI p,.bool false] 24)).alloc (.cells #[.string t,vI q,.bool false] 24)).alloc (.cells #[.string ⟨#[]⟩,vI 0,.bool false] 24))=w1 at *
 have l1_0:=F0.out.1.lt
 have a1_0_0:=F0.out.1.cell 0 _ rfl
 have f1_0_0:=F0.out.1.fz 0
 have a1_0_1:=F0.out.1.cell 1 _ rfl
 have f1_0_1:=F0.out.1.fz 1
 have a1_0_2:=F0.out.1.cell 2 _ rfl
 have f1_0_2:=F0.out.1.fz 2
 have l1_1:=F0.out.2.1.lt
 have a1_1_0:=F0.out.2.1.cell 0 _ rfl
 have f1_1_0:=F0.out.2.1.fz 0
 have a1_1_1:=F0.out.2.1.cell 1 _ rfl
 have f1_1_1:=F0.out.2.1.fz 1
 have a1_1_2:=F0.out.2.1.cell 2 _ rfl
 have f1_1_2:=F0.out.2.1.fz 2
 have l1_2:=F0.out.2.2.1.lt
 have a1_2_0:=F0.out.2.2.1.cell 0 _ rfl
 have f1_2_0:=F0.out.2.2.1.fz 0
 have a1_2_1:=F0.out.2.2.1.cell 1 _ rfl
 have f1_2_1:=F0.out.2.2.1.fz 1
 have a1_2_2:=F0.out.2.2.1.cell 2 _ rfl
 have f1_2_2:=F0.out.2.2.1.fz 2
 have ne1_0_1:¬ w.heap.size=w.heap.size+1:=by omega
 have ne1_0_2:¬ w.heap.size=w.heap.size+1+1:=by omega
 have ne1_1_0:¬ w.heap.size+1=w.heap.size:=by omega
 have ne1_1_2:¬ w.heap.size+1=w.heap.size+1+1:=by omega
 have ne1_2_0:¬ w.heap.size+1+1=w.heap.size:=by omega
 have ne1_2_1:¬ w.heap.size+1+1=w.heap.size+1:=by omega
 go_wp2_with fail
 all_goals first | (exfalso;omega) | skip
 refine (HC _).mono ?_
 rintro o2 w2 ⟨rfl,bb⟩
 have F1:Hid (Bk w2 (w.heap.size) [.string s,vI p,.bool false]/\Bk w2 (w.heap.size+1) [.string t,vI q,.bool false]/\Bk w2 (w.heap.size+1+1) [.string ⟨#[]⟩,vI 0,.bool false]/\Bl w w2):=⟨(F0.out.1).step bb,(F0.out.2.1).step bb,(F0.out.2.2.1).step bb,(F0.out.2.2.2).trans (bb.mono (F0.out.2.2.2).size)⟩
 clear F0
 clear bb
 clear l1_0 a1_0_0 f1_0_0 a1_0_1 f1_0_1 a1_0_2 f1_0_2 l1_1 a1_1_0 f1_1_0 a1_1_1 f1_1_1 a1_1_2 f1_1_2 l1_2 a1_2_0 f1_2_0 a1_2_1 f1_2_1 a1_2_2 f1_2_2
 have l2_0:=F1.out.1.lt
 have a2_0_0:=F1.out.1.cell 0 _ rfl
 have f2_0_0:=F1.out.1.fz 0
 have a2_0_1:=F1.out.1.cell 1 _ rfl
 have f2_0_1:=F1.out.1.fz 1
 have a2_0_2:=F1.out.1.cell 2 _ rfl
 have f2_0_2:=F1.out.1.fz 2
 have l2_1:=F1.out.2.1.lt
 have a2_1_0:=F1.out.2.1.cell 0 _ rfl
 have f2_1_0:=F1.out.2.1.fz 0
 have a2_1_1:=F1.out.2.1.cell 1 _ rfl
 have f2_1_1:=F1.out.2.1.fz 1
 have a2_1_2:=F1.out.2.1.cell 2 _ rfl
 have f2_1_2:=F1.out.2.1.fz 2
 have l2_2:=F1.out.2.2.1.lt
 have a2_2_0:=F1.out.2.2.1.cell 0 _ rfl
 have f2_2_0:=F1.out.2.2.1.fz 0
 have a2_2_1:=F1.out.2.2.1.cell 1 _ rfl
 have f2_2_1:=F1.out.2.2.1.fz 1
 have a2_2_2:=F1.out.2.2.1.cell 2 _ rfl
 have f2_2_2:=F1.out.2.2.1.fz 2
 have ne2_0_1:¬ w.heap.size=w.heap.size+1:=by omega
 have ne2_0_2:¬ w.heap.size=w.heap.size+1+1:=by omega
 have ne2_1_0:¬ w.heap.size+1=w.heap.size:=by omega
 have ne2_1_2:¬ w.heap.size+1=w.heap.size+1+1:=by omega
 have ne2_2_0:¬ w.heap.size+1+1=w.heap.size:=by omega
 have ne2_2_1:¬ w.heap.size+1+1=w.heap.size+1:=by omega
 have lt0_3:=(F1.out.1).lt
 have lt1_3:=(F1.out.2.1).lt
 have lt2_3:=(F1.out.2.2.1).lt
 have le3:=(F1.out.2.2.2).size
 have F2:Hid (Bk (w2.alloc (.cells #[.string s,vI p,.bool false,.string t,vI q,.bool false,.bool c] 59)) (w.heap.size) [.string s,vI p,.bool false]/\Bk (w2.alloc (.cells #[.string s,vI p,.bool false,.string t,vI q,.bool false,.bool c] 59)) (w.heap.size+1) [.string t,vI q,.bool false]/\Bk (w2.alloc (.cells #[.string s,vI p,.bool false,.string t,vI q,.bool false,.bool c] 59)) (w.heap.size+1+1) [.string ⟨#[]⟩,vI 0,.bool false]/\Bk (w2.alloc (.cells #[.string s,vI p,.bool false,.string t,vI q,.bool false,.bool c] 59)) (w2.heap.size) [.string s,vI p,.bool false,.string t,vI q,.bool false,.bool c]/\Bl w (w2.alloc (.cells #[.string s,vI p,.bool false,.string t,vI q,.bool false,.bool c] 59))):=⟨(F1.out.1).step (bz _ _),(F1.out.2.1).step (bz _ _),(F1.out.2.2.1).step (bz _ _),Bk.new7 w2 (.string s) (vI p) (.bool false) (.string t) (vI q) (.bool false) (.bool c) 59,(F1.out.2.2.2).alloc ((F1.out.2.2.2).size) _⟩
 clear F1
 go_upto_region 5 with fail
 generalize (w2.alloc (.cells #[.string s,vI p,.bool false,.string t,vI q,.bool false,.bool c] 59))=w3 at *
 clear l2_0 a2_0_0 f2_0_0 a2_0_1 f2_0_1 a2_0_2 f2_0_2 l2_1 a2_1_0 f2_1_0 a2_1_1 f2_1_1 a2_1_2 f2_1_2 l2_2 a2_2_0 f2_2_0 a2_2_1 f2_2_1 a2_2_2 f2_2_2
 have l3_0:=F2.out.1.lt
 have a3_0_0:=F2.out.1.cell 0 _ rfl
 have f3_0_0:=F2.out.1.fz 0
 have a3_0_1:=F2.out.1.cell 1 _ rfl
 have f3_0_1:=F2.out.1.fz 1
 have a3_0_2:=F2.out.1.cell 2 _ rfl
 have f3_0_2:=F2.out.1.fz 2
 have l3_1:=F2.out.2.1.lt
 have a3_1_0:=F2.out.2.1.cell 0 _ rfl
 have f3_1_0:=F2.out.2.1.fz 0
 have a3_1_1:=F2.out.2.1.cell 1 _ rfl
 have f3_1_1:=F2.out.2.1.fz 1
 have a3_1_2:=F2.out.2.1.cell 2 _ rfl
 have f3_1_2:=F2.out.2.1.fz 2
 have l3_2:=F2.out.2.2.1.lt
 have a3_2_0:=F2.out.2.2.1.cell 0 _ rfl
 have f3_2_0:=F2.out.2.2.1.fz 0
 have a3_2_1:=F2.out.2.2.1.cell 1 _ rfl
 have f3_2_1:=F2.out.2.2.1.fz 1
 have a3_2_2:=F2.out.2.2.1.cell 2 _ rfl
 have f3_2_2:=F2.out.2.2.1.fz 2
 have l3_3:=F2.out.2.2.2.1.lt
 have a3_3_0:=F2.out.2.2.2.1.cell 0 _ rfl
 have f3_3_0:=F2.out.2.2.2.1.fz 0
 have a3_3_1:=F2.out.2.2.2.1.cell 1 _ rfl
 have f3_3_1:=F2.out.2.2.2.1.fz 1
 have a3_3_2:=F2.out.2.2.2.1.cell 2 _ rfl
 have f3_3_2:=F2.out.2.2.2.1.fz 2
 have a3_3_3:=F2.out.2.2.2.1.cell 3 _ rfl
 have f3_3_3:=F2.out.2.2.2.1.fz 3
 have a3_3_4:=F2.out.2.2.2.1.cell 4 _ rfl
 have f3_3_4:=F2.out.2.2.2.1.fz 4
 have a3_3_5:=F2.out.2.2.2.1.cell 5 _ rfl
 have f3_3_5:=F2.out.2.2.2.1.fz 5
 have a3_3_6:=F2.out.2.2.2.1.cell 6 _ rfl
 have f3_3_6:=F2.out.2.2.2.1.fz 6
 have ne3_0_1:¬ w.heap.size=w.heap.size+1:=by omega
 have ne3_0_2:¬ w.heap.size=w.heap.size+1+1:=by omega
 have ne3_0_3:¬ w.heap.size=w2.heap.size:=by omega
 have ne3_1_0:¬ w.heap.size+1=w.heap.size:=by omega
 have ne3_1_2:¬ w.heap.size+1=w.heap.size+1+1:=by omega
 have ne3_1_3:¬ w.heap.size+1=w2.heap.size:=by omega
 have ne3_2_0:¬ w.heap.size+1+1=w.heap.size:=by omega
 have ne3_2_1:¬ w.heap.size+1+1=w.heap.size+1:=by omega
 have ne3_2_3:¬ w.heap.size+1+1=w2.heap.size:=by omega
 have ne3_3_0:¬ w2.heap.size=w.heap.size:=by omega
 have ne3_3_1:¬ w2.heap.size=w.heap.size+1:=by omega
 have ne3_3_2:¬ w2.heap.size=w.heap.size+1+1:=by omega
 go_wp2_with fail
 all_goals first | (exfalso;omega) | skip
 refine (HL _).mono ?_
 rintro o4 w4 ⟨rfl,bb⟩
 have F3:Hid (Bk w4 (w.heap.size) [.string s,vI p,.bool false]/\Bk w4 (w.heap.size+1) [.string t,vI q,.bool false]/\Bk w4 (w.heap.size+1+1) [.string ⟨#[]⟩,vI 0,.bool false]/\Bk w4 (w2.heap.size) [.string s,vI p,.bool false,.string t,vI q,.bool false,.bool c]/\Bl w w4):=⟨(F2.out.1).step bb,(F2.out.2.1).step bb,(F2.out.2.2.1).step bb,(F2.out.2.2.2.1).step bb,(F2.out.2.2.2.2).trans (bb.mono (F2.out.2.2.2.2).size)⟩
 clear F2
 clear bb
 clear l3_0 a3_0_0 f3_0_0 a3_0_1 f3_0_1 a3_0_2 f3_0_2 l3_1 a3_1_0 f3_1_0 a3_1_1 f3_1_1 a3_1_2 f3_1_2 l3_2 a3_2_0 f3_2_0 a3_2_1 f3_2_1 a3_2_2 f3_2_2 l3_3 a3_3_0 f3_3_0 a3_3_1 f3_3_1 a3_3_2 f3_3_2 a3_3_3 f3_3_3 a3_3_4 f3_3_4 a3_3_5 f3_3_5 a3_3_6 f3_3_6
 have lt0_4:=(F3.out.1).lt
 have lt1_4:=(F3.out.2.1).lt
 have lt2_4:=(F3.out.2.2.1).lt
 have lt3_4:=(F3.out.2.2.2.1).lt
 have le4:=(F3.out.2.2.2.2).size
 have F4:Hid (Bk (w4.alloc (.cells #[.string ⟨#[]⟩,vI 0,.bool false] 24)) (w.heap.size) [.string s,vI p,.bool false]/\Bk (w4.alloc (.cells #[.string ⟨#[]⟩,vI 0,.bool false] 24)) (w.heap.size+1) [.string t,vI q,.bool false]/\Bk (w4.alloc (.cells #[.string ⟨#[]⟩,vI 0,.bool false] 24)) (w.heap.size+1+1) [.string ⟨#[]⟩,vI 0,.bool false]/\Bk (w4.alloc (.cells #[.string ⟨#[]⟩,vI 0,.bool false] 24)) (w2.heap.size) [.string s,vI p,.bool false,.string t,vI q,.bool false,.bool c]/\Bk (w4.alloc (.cells #[.string ⟨#[]⟩,vI 0,.bool false] 24)) (w4.heap.size) [.string ⟨#[]⟩,vI 0,.bool false]/\Bl w (w4.alloc (.cells #[.string ⟨#[]⟩,vI 0,.bool false] 24))):=⟨(F3.out.1).step (bz _ _),(F3.out.2.1).step (bz _ _),(F3.out.2.2.1).step (bz _ _),(F3.out.2.2.2.1).step (bz _ _),Bk.new3 w4 (.string ⟨#[]⟩) (vI 0) (.bool false) 24,(F3.out.2.2.2.2).alloc ((F3.out.2.2.2.2).size) _⟩
 clear F3
 go_upto_region 6 with fail
 generalize (w4.alloc (.cells #[.string ⟨#[]⟩,vI 0,.bool false] 24))=w5 at *
 have l4_0:=F4.out.1.lt
 have a4_0_0:=F4.out.1.cell 0 _ rfl
 have f4_0_0:=F4.out.1.fz 0
 have a4_0_1:=F4.out.1.cell 1 _ rfl
 have f4_0_1:=F4.out.1.fz 1
 have a4_0_2:=F4.out.1.cell 2 _ rfl
 have f4_0_2:=F4.out.1.fz 2
 have l4_1:=F4.out.2.1.lt
 have a4_1_0:=F4.out.2.1.cell 0 _ rfl
 have f4_1_0:=F4.out.2.1.fz 0
 have a4_1_1:=F4.out.2.1.cell 1 _ rfl
 have f4_1_1:=F4.out.2.1.fz 1
 have a4_1_2:=F4.out.2.1.cell 2 _ rfl
 have f4_1_2:=F4.out.2.1.fz 2
 have l4_2:=F4.out.2.2.1.lt
 have a4_2_0:=F4.out.2.2.1.cell 0 _ rfl
 have f4_2_0:=F4.out.2.2.1.fz 0
 have a4_2_1:=F4.out.2.2.1.cell 1 _ rfl
 have f4_2_1:=F4.out.2.2.1.fz 1
 have a4_2_2:=F4.out.2.2.1.cell 2 _ rfl
 have f4_2_2:=F4.out.2.2.1.fz 2
 have l4_3:=F4.out.2.2.2.1.lt
 have a4_3_0:=F4.out.2.2.2.1.cell 0 _ rfl
 have f4_3_0:=F4.out.2.2.2.1.fz 0
 have a4_3_1:=F4.out.2.2.2.1.cell 1 _ rfl
 have f4_3_1:=F4.out.2.2.2.1.fz 1
 have a4_3_2:=F4.out.2.2.2.1.cell 2 _ rfl
 have f4_3_2:=F4.out.2.2.2.1.fz 2
 have a4_3_3:=F4.out.2.2.2.1.cell 3 _ rfl
 have f4_3_3:=F4.out.2.2.2.1.fz 3
 have a4_3_4:=F4.out.2.2.2.1.cell 4 _ rfl
 have f4_3_4:=F4.out.2.2.2.1.fz 4
 have a4_3_5:=F4.out.2.2.2.1.cell 5 _ rfl
 have f4_3_5:=F4.out.2.2.2.1.fz 5
 have a4_3_6:=F4.out.2.2.2.1.cell 6 _ rfl
 have f4_3_6:=F4.out.2.2.2.1.fz 6
 have l4_4:=F4.out.2.2.2.2.1.lt
 have a4_4_0:=F4.out.2.2.2.2.1.cell 0 _ rfl
 have f4_4_0:=F4.out.2.2.2.2.1.fz 0
 have a4_4_1:=F4.out.2.2.2.2.1.cell 1 _ rfl
 have f4_4_1:=F4.out.2.2.2.2.1.fz 1
 have a4_4_2:=F4.out.2.2.2.2.1.cell 2 _ rfl
 have f4_4_2:=F4.out.2.2.2.2.1.fz 2
 have ne4_0_1:¬ w.heap.size=w.heap.size+1:=by omega
 have ne4_0_2:¬ w.heap.size=w.heap.size+1+1:=by omega
 have ne4_0_3:¬ w.heap.size=w2.heap.size:=by omega
 have ne4_0_4:¬ w.heap.size=w4.heap.size:=by omega
 have ne4_1_0:¬ w.heap.size+1=w.heap.size:=by omega
 have ne4_1_2:¬ w.heap.size+1=w.heap.size+1+1:=by omega
 have ne4_1_3:¬ w.heap.size+1=w2.heap.size:=by omega
 have ne4_1_4:¬ w.heap.size+1=w4.heap.size:=by omega
 have ne4_2_0:¬ w.heap.size+1+1=w.heap.size:=by omega
 have ne4_2_1:¬ w.heap.size+1+1=w.heap.size+1:=by omega
 have ne4_2_3:¬ w.heap.size+1+1=w2.heap.size:=by omega
 have ne4_2_4:¬ w.heap.size+1+1=w4.heap.size:=by omega
 have ne4_3_0:¬ w2.heap.size=w.heap.size:=by omega
 have ne4_3_1:¬ w2.heap.size=w.heap.size+1:=by omega
 have ne4_3_2:¬ w2.heap.size=w.heap.size+1+1:=by omega
 have ne4_3_4:¬ w2.heap.size=w4.heap.size:=by omega
 have ne4_4_0:¬ w4.heap.size=w.heap.size:=by omega
 have ne4_4_1:¬ w4.heap.size=w.heap.size+1:=by omega
 have ne4_4_2:¬ w4.heap.size=w.heap.size+1+1:=by omega
 have ne4_4_3:¬ w4.heap.size=w2.heap.size:=by omega
 go_wp2
 refine bodyPost_ret (v:=.tuple #[.agg #[.string ⟨#[]⟩,vI 0,.bool false],.iface 69 (vI 4)]) (by simp [results,Tryz.results16,go_sem,World.cell?_setCell_same,World.cell?_setCell_other, *]) rfl ⟨rfl,?_⟩
 repeat (first | refine Below.setCell ?_ (by first | exact Nat.le_refl _ | (dsimp only;omega)) _ | refine Below.alloc ?_ (by first | exact Nat.le_refl _ | omega | (simp;omega)) _ | refine Below.drew ?_)
 exact F4.out.2.2.2.2.2
theorem aDC {s t:ByteArray}{p q r:Int}{c:Bool}{d1:ByteArray}{d2:Int}(h0:0<s.size) (q1:¬ 0<=r) (HC:∀ W,Cb 32 #[.agg #[.string s,vI p,.bool false],.agg #[.string t,vI q,.bool false]] W (.tuple #[vI r,.nilIface])) (HL:∀ W,Cb 33 #[.agg #[.string s,vI p,.bool false,.string t,vI q,.bool false,.bool c]] W (.tuple #[.agg #[.string d1,vI d2,.bool false],.bool true])) (w:World) :
 Cb 16 #[.agg #[.string s,vI p,.bool false],.agg #[.string t,vI q,.bool false],.bool c] w (.tuple #[.agg #[.string d1,vI d2,.bool false],.nilIface]):=by
 have he:¬ s.toList=[]:=by
  intro z
  have e:=aB h0
  rw [z] at e
  exact absurd e (by decide)
 have F0:Hid (Bk (((w.alloc (.cells #[.string s,vI p,.bool false] 24)).alloc (.cells #[.string t,vI q,.bool false] 24)).alloc (.cells #[.string ⟨#[]⟩,vI 0,.bool false] 24)) (w.heap.size) [.string s,vI p,.bool false]/\Bk (((w.alloc (.cells #[.string s,vI p,.bool false] 24)).alloc (.cells #[.string t,vI q,.bool false] 24)).alloc (.cells #[.string ⟨#[]⟩,vI 0,.bool false] 24)) (w.heap.size+1) [.string t,vI q,.bool false]/\Bk (((w.alloc (.cells #[.string s,vI p,.bool false] 24)).alloc (.cells #[.string t,vI q,.bool false] 24)).alloc (.cells #[.string ⟨#[]⟩,vI 0,.bool false] 24)) (w.heap.size+1+1) [.string ⟨#[]⟩,vI 0,.bool false]/\Bl w (((w.alloc (.cells #[.string s,vI p,.bool false] 24)).alloc (.cells #[.string t,vI q,.bool false] 24)).alloc (.cells #[.string ⟨#[]⟩,vI 0,.bool false] 24))):=⟨((Bk.new3 w (.string s) (vI p) (.bool false) 24).step (bz _ _)).step (bz _ _),(((by have q:=Bk.new3 (w.alloc (.cells #[.string s,vI p,.bool false] 24)) (.string t) (vI q) (.bool false) 24;simpa using q):Bk ((w.alloc (.cells #[.string s,vI p,.bool false] 24)).alloc (.cells #[.string t,vI q,.bool false] 24)) (w.heap.size+1) [.string t,vI q,.bool false])).step (bz _ _),((by have q:=Bk.new3 ((w.alloc (.cells #[.string s,vI p,.bool false] 24)).alloc (.cells #[.string t,vI q,.bool false] 24)) (.string ⟨#[]⟩) (vI 0) (.bool false) 24;simpa using q):Bk (((w.alloc (.cells #[.string s,vI p,.bool false] 24)).alloc (.cells #[.string t,vI q,.bool false] 24)).alloc (.cells #[.string ⟨#[]⟩,vI 0,.bool false] 24)) (w.heap.size+1+1) [.string ⟨#[]⟩,vI 0,.bool false]),((((Below.refl w.heap.size w)).alloc (Nat.le_refl _) _).alloc ((((Below.refl w.heap.size w)).alloc (Nat.le_refl _) _).size) _).alloc (((((Below.refl w.heap.size w)).alloc (Nat.le_refl _) _).alloc ((((Below.refl w.heap.size w)).alloc (Nat.le_refl _) _).size) _).size) _⟩
 go_enter Tryz.func16,Tryz.ntmps16
 go_upto_region 1 with fail
 generalize (((w.alloc (.cells #[.string s,vI p,.bool false] 24)).alloc (.cells #[.string t,vI q,.bool false] 24)).alloc (.cells #[.string ⟨#[]⟩,vI 0,.bool false] 24))=w1 at *
 have l1_0:=F0.out.1.lt
 have a1_0_0:=F0.out.1.cell 0 _ rfl
 have f1_0_0:=F0.out.1.fz 0
 have a1_0_1:=F0.out.1.cell 1 _ rfl
 have f1_0_1:=F0.out.1.fz 1
 have a1_0_2:=F0.out.1.cell 2 _ rfl
 have f1_0_2:=F0.out.1.fz 2
 have l1_1:=F0.out.2.1.lt
 have a1_1_0:=F0.out.2.1.cell 0 _ rfl
 have f1_1_0:=F0.out.2.1.fz 0
 have a1_1_1:=F0.out.2.1.cell 1 _ rfl
 have f1_1_1:=F0.out.2.1.fz 1
 have a1_1_2:=F0.out.2.1.cell 2 _ rfl
 have f1_1_2:=F0.out.2.1.fz 2
 have l1_2:=F0.out.2.2.1.lt
 have a1_2_0:=F0.out.2.2.1.cell 0 _ rfl
 have f1_2_0:=F0.out.2.2.1.fz 0
 have a1_2_1:=F0.out.2.2.1.cell 1 _ rfl
 have f1_2_1:=F0.out.2.2.1.fz 1
 have a1_2_2:=F0.out.2.2.1.cell 2 _ rfl
 have f1_2_2:=F0.out.2.2.1.fz 2
 have ne1_0_1:¬ w.heap.size=w.heap.size+1:=by omega
 have ne1_0_2:¬ w.heap.size=w.heap.size+1+1:=by omega
 have ne1_1_0:¬ w.heap.size+1=w.heap.size:=by omega
 have ne1_1_2:¬ w.heap.size+1=w.heap.size+1+1:=by omega
 have ne1_2_0:¬ w.heap.size+1+1=w.heap.size:=by omega
 have ne1_2_1:¬ w.heap.size+1+1=w.heap.size+1:=by omega
 go_wp2_with fail
 all_goals first | (exfalso;omega) | skip
 refine (HC _).mono ?_
 rintro o2 w2 ⟨rfl,bb⟩
 have F1:Hid (Bk w2 (w.heap.size) [.string s,vI p,.bool false]/\Bk w2 (w.heap.size+1) [.string t,vI q,.bool false]/\Bk w2 (w.heap.size+1+1) [.string ⟨#[]⟩,vI 0,.bool false]/\Bl w w2):=⟨(F0.out.1).step bb,(F0.out.2.1).step bb,(F0.out.2.2.1).step bb,(F0.out.2.2.2).trans (bb.mono (F0.out.2.2.2).size)⟩
 clear F0
 clear bb
 clear l1_0 a1_0_0 f1_0_0 a1_0_1 f1_0_1 a1_0_2 f1_0_2 l1_1 a1_1_0 f1_1_0 a1_1_1 f1_1_1 a1_1_2 f1_1_2 l1_2 a1_2_0 f1_2_0 a1_2_1 f1_2_1 a1_2_2 f1_2_2
 have l2_0:=F1.out.1.lt
 have a2_0_0:=F1.out.1.cell 0 _ rfl
 have f2_0_0:=F1.out.1.fz 0
 have a2_0_1:=F1.out.1.cell 1 _ rfl
 have f2_0_1:=F1.out.1.fz 1
 have a2_0_2:=F1.out.1.cell 2 _ rfl
 have f2_0_2:=F1.out.1.fz 2
 have l2_1:=F1.out.2.1.lt
 have a2_1_0:=F1.out.2.1.cell 0 _ rfl
 have f2_1_0:=F1.out.2.1.fz 0
 have a2_1_1:=F1.out.2.1.cell 1 _ rfl
 have f2_1_1:=F1.out.2.1.fz 1
 have a2_1_2:=F1.out.2.1.cell 2 _ rfl
 have f2_1_2:=F1.out.2.1.fz 2
 have l2_2:=F1.out.2.2.1.lt
 have a2_2_0:=F1.out.2.2.1.cell 0 _ rfl
 have f2_2_0:=F1.out.2.2.1.fz 0
 have a2_2_1:=F1.out.2.2.1.cell 1 _ rfl
 have f2_2_1:=F1.out.2.2.1.fz 1
 have a2_2_2:=F1.out.2.2.1.cell 2 _ rfl
 have f2_2_2:=F1.out.2.2.1.fz 2
 have ne2_0_1:¬ w.heap.size=w.heap.size+1:=by omega
 have ne2_0_2:¬ w.heap.size=w.heap.size+1+1:=by omega
 have ne2_1_0:¬ w.heap.size+1=w.heap.size:=by omega
 have ne2_1_2:¬ w.heap.size+1=w.heap.size+1+1:=by omega
 have ne2_2_0:¬ w.heap.size+1+1=w.heap.size:=by omega
 have ne2_2_1:¬ w.heap.size+1+1=w.heap.size+1:=by omega
 have lt0_3:=(F1.out.1).lt
 have lt1_3:=(F1.out.2.1).lt
 have lt2_3:=(F1.out.2.2.1).lt
 have le3:=(F1.out.2.2.2).size
 have F2:Hid (Bk (w2.alloc (.cells #[.string s,vI p,.bool false,.string t,vI q,.bool false,.bool c] 59)) (w.heap.size) [.string s,vI p,.bool false]/\Bk (w2.alloc (.cells #[.string s,vI p,.bool false,.string t,vI q,.bool false,.bool c] 59)) (w.heap.size+1) [.string t,vI q,.bool false]/\Bk (w2.alloc (.cells #[.string s,vI p,.bool false,.string t,vI q,.bool false,.bool c] 59)) (w.heap.size+1+1) [.string ⟨#[]⟩,vI 0,.bool false]/\Bk (w2.alloc (.cells #[.string s,vI p,.bool false,.string t,vI q,.bool false,.bool c] 59)) (w2.heap.size) [.string s,vI p,.bool false,.string t,vI q,.bool false,.bool c]/\Bl w (w2.alloc (.cells #[.string s,vI p,.bool false,.string t,vI q,.bool false,.bool c] 59))):=⟨(F1.out.1).step (bz _ _),(F1.out.2.1).step (bz _ _),(F1.out.2.2.1).step (bz _ _),Bk.new7 w2 (.string s) (vI p) (.bool false) (.string t) (vI q) (.bool false) (.bool c) 59,(F1.out.2.2.2).alloc ((F1.out.2.2.2).size) _⟩
 clear F1
 go_upto_region 5 with fail
 generalize (w2.alloc (.cells #[.string s,vI p,.bool false,.string t,vI q,.bool false,.bool c] 59))=w3 at *
 clear l2_0 a2_0_0 f2_0_0 a2_0_1 f2_0_1 a2_0_2 f2_0_2 l2_1 a2_1_0 f2_1_0 a2_1_1 f2_1_1 a2_1_2 f2_1_2 l2_2 a2_2_0 f2_2_0 a2_2_1 f2_2_1 a2_2_2 f2_2_2
 have l3_0:=F2.out.1.lt
 have a3_0_0:=F2.out.1.cell 0 _ rfl
 have f3_0_0:=F2.out.1.fz 0
 have a3_0_1:=F2.out.1.cell 1 _ rfl
 have f3_0_1:=F2.out.1.fz 1
 have a3_0_2:=F2.out.1.cell 2 _ rfl
 have f3_0_2:=F2.out.1.fz 2
 have l3_1:=F2.out.2.1.lt
 have a3_1_0:=F2.out.2.1.cell 0 _ rfl
 have f3_1_0:=F2.out.2.1.fz 0
 have a3_1_1:=F2.out.2.1.cell 1 _ rfl
 have f3_1_1:=F2.out.2.1.fz 1
 have a3_1_2:=F2.out.2.1.cell 2 _ rfl
 have f3_1_2:=F2.out.2.1.fz 2
 have l3_2:=F2.out.2.2.1.lt
 have a3_2_0:=F2.out.2.2.1.cell 0 _ rfl
 have f3_2_0:=F2.out.2.2.1.fz 0
 have a3_2_1:=F2.out.2.2.1.cell 1 _ rfl
 have f3_2_1:=F2.out.2.2.1.fz 1
 have a3_2_2:=F2.out.2.2.1.cell 2 _ rfl
 have f3_2_2:=F2.out.2.2.1.fz 2
 have l3_3:=F2.out.2.2.2.1.lt
 have a3_3_0:=F2.out.2.2.2.1.cell 0 _ rfl
 have f3_3_0:=F2.out.2.2.2.1.fz 0
 have a3_3_1:=F2.out.2.2.2.1.cell 1 _ rfl
 have f3_3_1:=F2.out.2.2.2.1.fz 1
 have a3_3_2:=F2.out.2.2.2.1.cell 2 _ rfl
 have f3_3_2:=F2.out.2.2.2.1.fz 2
 have a3_3_3:=F2.out.2.2.2.1.cell 3 _ rfl
 have f3_3_3:=F2.out.2.2.2.1.fz 3
 have a3_3_4:=F2.out.2.2.2.1.cell 4 _ rfl
 have f3_3_4:=F2.out.2.2.2.1.fz 4
 have a3_3_5:=F2.out.2.2.2.1.cell 5 _ rfl
 have f3_3_5:=F2.out.2.2.2.1.fz 5
 have a3_3_6:=F2.out.2.2.2.1.cell 6 _ rfl
 have f3_3_6:=F2.out.2.2.2.1.fz 6
 have ne3_0_1:¬ w.heap.size=w.heap.size+1:=by omega
 have ne3_0_2:¬ w.heap.size=w.heap.size+1+1:=by omega
 have ne3_0_3:¬ w.heap.size=w2.heap.size:=by omega
 have ne3_1_0:¬ w.heap.size+1=w.heap.size:=by omega
 have ne3_1_2:¬ w.heap.size+1=w.heap.size+1+1:=by omega
 have ne3_1_3:¬ w.heap.size+1=w2.heap.size:=by omega
 have ne3_2_0:¬ w.heap.size+1+1=w.heap.size:=by omega
 have ne3_2_1:¬ w.heap.size+1+1=w.heap.size+1:=by omega
 have ne3_2_3:¬ w.heap.size+1+1=w2.heap.size:=by omega
 have ne3_3_0:¬ w2.heap.size=w.heap.size:=by omega
 have ne3_3_1:¬ w2.heap.size=w.heap.size+1:=by omega
 have ne3_3_2:¬ w2.heap.size=w.heap.size+1+1:=by omega
 go_wp2_with fail
 all_goals first | (exfalso;omega) | skip
 refine (HL _).mono ?_
 rintro o4 w4 ⟨rfl,bb⟩
 have F3:Hid (Bk w4 (w.heap.size) [.string s,vI p,.bool false]/\Bk w4 (w.heap.size+1) [.string t,vI q,.bool false]/\Bk w4 (w.heap.size+1+1) [.string ⟨#[]⟩,vI 0,.bool false]/\Bk w4 (w2.heap.size) [.string s,vI p,.bool false,.string t,vI q,.bool false,.bool c]/\Bl w w4):=⟨(F2.out.1).step bb,(F2.out.2.1).step bb,(F2.out.2.2.1).step bb,(F2.out.2.2.2.1).step bb,(F2.out.2.2.2.2).trans (bb.mono (F2.out.2.2.2.2).size)⟩
 clear F2
 clear bb
 clear l3_0 a3_0_0 f3_0_0 a3_0_1 f3_0_1 a3_0_2 f3_0_2 l3_1 a3_1_0 f3_1_0 a3_1_1 f3_1_1 a3_1_2 f3_1_2 l3_2 a3_2_0 f3_2_0 a3_2_1 f3_2_1 a3_2_2 f3_2_2 l3_3 a3_3_0 f3_3_0 a3_3_1 f3_3_1 a3_3_2 f3_3_2 a3_3_3 f3_3_3 a3_3_4 f3_3_4 a3_3_5 f3_3_5 a3_3_6 f3_3_6
 have lt0_4:=(F3.out.1).lt
 have lt1_4:=(F3.out.2.1).lt
 have lt2_4:=(F3.out.2.2.1).lt
 have lt3_4:=(F3.out.2.2.2.1).lt
 have le4:=(F3.out.2.2.2.2).size
 have F4:Hid (Bk (w4.alloc (.cells #[.string d1,vI d2,.bool false] 24)) (w.heap.size) [.string s,vI p,.bool false]/\Bk (w4.alloc (.cells #[.string d1,vI d2,.bool false] 24)) (w.heap.size+1) [.string t,vI q,.bool false]/\Bk (w4.alloc (.cells #[.string d1,vI d2,.bool false] 24)) (w.heap.size+1+1) [.string ⟨#[]⟩,vI 0,.bool false]/\Bk (w4.alloc (.cells #[.string d1,vI d2,.bool false] 24)) (w2.heap.size) [.string s,vI p,.bool false,.string t,vI q,.bool false,.bool c]/\Bk (w4.alloc (.cells #[.string d1,vI d2,.bool false] 24)) (w4.heap.size) [.string d1,vI d2,.bool false]/\Bl w (w4.alloc (.cells #[.string d1,vI d2,.bool false] 24))):=⟨(F3.out.1).step (bz _ _),(F3.out.2.1).step (bz _ _),(F3.out.2.2.1).step (bz _ _),(F3.out.2.2.2.1).step (bz _ _),Bk.new3 w4 (.string d1) (vI d2) (.bool false) 24,(F3.out.2.2.2.2).alloc ((F3.out.2.2.2.2).size) _⟩
 clear F3
 go_upto_region 6 with fail
 generalize (w4.alloc (.cells #[.string d1,vI d2,.bool false] 24))=w5 at *
 have l4_0:=F4.out.1.lt
 have a4_0_0:=F4.out.1.cell 0 _ rfl
 have f4_0_0:=F4.out.1.fz 0
 have a4_0_1:=F4.out.1.cell 1 _ rfl
 have f4_0_1:=F4.out.1.fz 1
 have a4_0_2:=F4.out.1.cell 2 _ rfl
 have f4_0_2:=F4.out.1.fz 2
 have l4_1:=F4.out.2.1.lt
 have a4_1_0:=F4.out.2.1.cell 0 _ rfl
 have f4_1_0:=F4.out.2.1.fz 0
 have a4_1_1:=F4.out.2.1.cell 1 _ rfl
 have f4_1_1:=F4.out.2.1.fz 1
 have a4_1_2:=F4.out.2.1.cell 2 _ rfl
 have f4_1_2:=F4.out.2.1.fz 2
 have l4_2:=F4.out.2.2.1.lt
 have a4_2_0:=F4.out.2.2.1.cell 0 _ rfl
 have f4_2_0:=F4.out.2.2.1.fz 0
 have a4_2_1:=F4.out.2.2.1.cell 1 _ rfl
 have f4_2_1:=F4.out.2.2.1.fz 1
 have a4_2_2:=F4.out.2.2.1.cell 2 _ rfl
 have f4_2_2:=F4.out.2.2.1.fz 2
 have l4_3:=F4.out.2.2.2.1.lt
 have a4_3_0:=F4.out.2.2.2.1.cell 0 _ rfl
 have f4_3_0:=F4.out.2.2.2.1.fz 0
 have a4_3_1:=F4.out.2.2.2.1.cell 1 _ rfl
 have f4_3_1:=F4.out.2.2.2.1.fz 1
 have a4_3_2:=F4.out.2.2.2.1.cell 2 _ rfl
 have f4_3_2:=F4.out.2.2.2.1.fz 2
 have a4_3_3:=F4.out.2.2.2.1.cell 3 _ rfl
 have f4_3_3:=F4.out.2.2.2.1.fz 3
 have a4_3_4:=F4.out.2.2.2.1.cell 4 _ rfl
 have f4_3_4:=F4.out.2.2.2.1.fz 4
 have a4_3_5:=F4.out.2.2.2.1.cell 5 _ rfl
 have f4_3_5:=F4.out.2.2.2.1.fz 5
 have a4_3_6:=F4.out.2.2.2.1.cell 6 _ rfl
 have f4_3_6:=F4.out.2.2.2.1.fz 6
 have l4_4:=F4.out.2.2.2.2.1.lt
 have a4_4_0:=F4.out.2.2.2.2.1.cell 0 _ rfl
 have f4_4_0:=F4.out.2.2.2.2.1.fz 0
 have a4_4_1:=F4.out.2.2.2.2.1.cell 1 _ rfl
 have f4_4_1:=F4.out.2.2.2.2.1.fz 1
 have a4_4_2:=F4.out.2.2.2.2.1.cell 2 _ rfl
 have f4_4_2:=F4.out.2.2.2.2.1.fz 2
 have ne4_0_1:¬ w.heap.size=w.heap.size+1:=by omega
 have ne4_0_2:¬ w.heap.size=w.heap.size+1+1:=by omega
 have ne4_0_3:¬ w.heap.size=w2.heap.size:=by omega
 have ne4_0_4:¬ w.heap.size=w4.heap.size:=by omega
 have ne4_1_0:¬ w.heap.size+1=w.heap.size:=by omega
 have ne4_1_2:¬ w.heap.size+1=w.heap.size+1+1:=by omega
 have ne4_1_3:¬ w.heap.size+1=w2.heap.size:=by omega
 have ne4_1_4:¬ w.heap.size+1=w4.heap.size:=by omega
 have ne4_2_0:¬ w.heap.size+1+1=w.heap.size:=by omega
 have ne4_2_1:¬ w.heap.size+1+1=w.heap.size+1:=by omega
 have ne4_2_3:¬ w.heap.size+1+1=w2.heap.size:=by omega
 have ne4_2_4:¬ w.heap.size+1+1=w4.heap.size:=by omega
 have ne4_3_0:¬ w2.heap.size=w.heap.size:=by omega
 have ne4_3_1:¬ w2.heap.size=w.heap.size+1:=by omega
 have ne4_3_2:¬ w2.heap.size=w.heap.size+1+1:=by omega
 have ne4_3_4:¬ w2.heap.size=w4.heap.size:=by omega
 have ne4_4_0:¬ w4.heap.size=w.heap.size:=by omega
 have ne4_4_1:¬ w4.heap.size=w.heap.size+1:=by omega
 have ne4_4_2:¬ w4.heap.size=w.heap.size+1+1:=by omega
 have ne4_4_3:¬ w4.heap.size=w2.heap.size:=by omega
 go_wp2
 refine bodyPost_ret (v:=.tuple #[.agg #[.string d1,vI d2,.bool false],.nilIface]) (by simp [results,Tryz.results16,go_sem,World.cell?_setCell_same,World.cell?_setCell_other, *]) rfl ⟨rfl,?_⟩
 repeat (first | refine Below.setCell ?_ (by first | exact Nat.le_refl _ | (dsimp only;omega)) _ | refine Below.alloc ?_ (by first | exact Nat.le_refl _ | omega | (simp;omega)) _ | refine Below.drew ?_)
 exact F4.out.2.2.2.2.2
end Go.Proofs.YtblkokjkmbpejaaGreatDoor
