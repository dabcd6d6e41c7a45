/-
  Holds: UEwM UEwE.
-/
import Derived.Laws.BitsAllLaws
import Derived.Test.YtejgpbhionadbaaGreatDoorChecked
import Derived.Lib.ItoaNum
import Derived.Laws.Externs
import Derived.WalkKit
import Derived.WalkSpells
import Derived.WalkLawsBesides
import Derived.Lib.Mul64
import Derived.Lib.TrailingZeros
import Derived.Deep.OwnRows
import Derived.Laws.CopyOwn
import Derived.BigQuiet
import Derived.Deep.RegionHeld3
import Derived.Deep.LoopGhost
import Derived.Deep.AppendLies
import Derived.Deep.DeepCutAuto
import Derived.Stop.Asserts
import Derived.RowKitTokens
import Derived.Lib.Strings
import Derived.Lib.BufferWrite
import Derived.Lib.ConvBytes
import Derived.Test.YtejgpbhionadbaaGreatDoorXg4
import Derived.Test.YtejgpbhionadbaaGreatDoorXg5
set_option maxRecDepth 100000
set_option maxHeartbeats 4000000
namespace Go.Proofs.YtejgpbhionadbaaGreatDoor
theorem dgt_dg {s:ByteArray}(h:DG s) (i:Nat):48≤dgt s i∧dgt s i≤57:=by
 unfold dgt
 split
 · rename_i q;exact h i q
 · omega
def dvA (s:ByteArray) (a:Nat):Nat → Nat
 | 0=>0
 | k+1=>dvA s a k * 10+(dgt s (a+k) - 48)
theorem dvA_succ (s:ByteArray) (a k:Nat):dvA s a (k+1)=dvA s a k * 10+(dgt s (a+k) - 48):=rfl
theorem dvA_add (s : ByteArray) (a k : Nat) : dvA s 0 (a + k) = dvA s 0 a * 10 ^ k + dvA s a k := by
  induction k with
  | zero => rw [Nat.add_zero, Nat.pow_zero, Nat.mul_one]; rfl
  | succ k ih =>
    rw [← Nat.add_assoc, dvA_succ, dvA_succ, ih, Nat.zero_add, Nat.pow_succ, Nat.add_mul, Nat.mul_assoc]
    omega
theorem dvA_lt {s : ByteArray} (h : DG s) (a k : Nat) : dvA s a k < 10 ^ k := by
  induction k with
  | zero => exact Nat.one_pos
  | succ k ih =>
    have := dgt_dg h (a + k)
    rw [dvA_succ, Nat.pow_succ]
    omega
theorem dvA_same {s t:ByteArray}{a b k:Nat}(h:∀ i,i<k → dgt s (a+i)=dgt t (b+i)):dvA s a k=dvA t b k:=by
 induction k with
 | zero=>rfl
 | succ k ih=>rw [dvA_succ,dvA_succ,ih fun i q=>h i (by omega),h k (by omega)]
theorem dgt_pre {s:ByteArray}{m i:Nat}(hm:m≤s.size) (h:i<m):dgt (s.extract 0 m) i=dgt s i:=by
 have hs:i<(s.extract 0 m).size:=by rw [ByteArray.size_extract];omega
 rw [dgt_lt hs,dgt_lt (by omega:i<s.size)]
 congr 1
 rw [ByteArray.getElem_extract]
 congr 1
 omega
end Go.Proofs.YtejgpbhionadbaaGreatDoor
namespace Go.Proofs.YtejgpbhionadbaaGreatDoor
open Go.RowKit
structure DcB (W:World) (K:Nat) (a b c:Value):Prop where
 lt:K<W.heap.size
 a0:W.cell? ⟨K,0,none⟩=some a
 a1:W.cell? ⟨K,1,none⟩=some b
 a2:W.cell? ⟨K,2,none⟩=some c
 f0:W.frozen? ⟨K,0,none⟩=false
 f1:W.frozen? ⟨K,1,none⟩=false
 f2:W.frozen? ⟨K,2,none⟩=false
theorem DcB.step {W W':World}{K:Nat}{a b c:Value}(h:DcB W K a b c) (hb:Bl W W'):DcB W' K a b c:=by
 have k:=fun o=>hb.cell (p:=⟨K,o,none⟩) h.lt
 have j:=fun o=>hb.frozen (p:=⟨K,o,none⟩) h.lt
 exact ⟨Nat.lt_of_lt_of_le h.lt hb.size,(k 0).trans h.a0,(k 1).trans h.a1,(k 2).trans h.a2,(j 0).trans h.f0,(j 1).trans h.f1,(j 2).trans h.f2⟩
theorem DcB.new (W:World) (a b c:Value) (T:TypeId):DcB (W.alloc (.cells #[a,b,c] T)) W.heap.size a b c :=
 ⟨by simp,by simp,by simp,by simp,World.frozen?_alloc_new _ _ _ _,World.frozen?_alloc_new _ _ _ _,World.frozen?_alloc_new _ _ _ _⟩
def nrP (p:Int):Int:=if 500<p then 500 else if p < -500 then -500 else p
def frN (s:ByteArray) (p:Int):Nat:=dvA s 0 s.size * 10 ^ (p - s.size).toNat
def frD (s:ByteArray) (p:Int):Nat:=10 ^ ((s.size:Int) - p).toNat
theorem dvA_pos {s:ByteArray}(hd:DG s) (hf:dgt s 0 ≠ 48) {k:Nat}(hk:0<k):0<dvA s 0 k:=by
 obtain ⟨j,rfl⟩:∃ j,k=1+j:=⟨k - 1,by omega⟩
 rw [dvA_add]
 have:=dgt_dg hd 0
 have e:dvA s 0 1=dgt s 0 - 48:=by rw [dvA_succ,Nat.add_zero];show 0 * 10+_=_;omega
 have:=Nat.mul_pos (show 0<dvA s 0 1 by omega) (Nat.pow_pos (n:=j) (show 0<10 by decide))
 omega
theorem VN.val {s:ByteArray}{p:Int}{c:Bool}(h:VN s p c):0<dvA s 0 s.size:=dvA_pos h.dg (by rw [dgt_lt h.pos];exact h.first) h.pos
end Go.Proofs.YtejgpbhionadbaaGreatDoor
