/-
  Holds: UEwM UEwE.
-/
import Derived.Laws.BitsAllLaws
import Derived.Test.YteeobndfnkeldaaGreatDoorChecked
import Derived.Lib.ItoaNum
import Derived.Laws.Externs
import Derived.WalkKit
import Derived.WalkSpells
import Derived.WalkLawsBesides
import Derived.Lib.Mul64
import Derived.Lib.TrailingZeros
import Derived.Deep.OwnRows
import Derived.Laws.CopyOwn
import Derived.BigQuiet
import Derived.Deep.RegionHeld3
import Derived.Deep.LoopGhost
import Derived.Deep.AppendLies
import Derived.Deep.DeepCutAuto
import Derived.Stop.Asserts
import Derived.RowKitTokens
import Derived.Lib.Strings
import Derived.Lib.BufferWrite
import Derived.Lib.ConvBytes
import Derived.Test.YteeobndfnkeldaaGreatDoorXe4
import Derived.Test.YteeobndfnkeldaaGreatDoorXe5
set_option maxRecDepth 100000
set_option maxHeartbeats 4000000
namespace Go.Proofs.YteeobndfnkeldaaGreatDoor
theorem dgt_dg {s:ByteArray}(h:DG s) (i:Nat):48≤dgt s i∧dgt s i≤57:=by
 unfold dgt
 split
 · rename_i q;exact h i q
 · omega
def dvA (s:ByteArray) (a:Nat):Nat → Nat
 | 0=>0
 | k+1=>dvA s a k * 10+(dgt s (a+k) - 48)
theorem dvA_succ (s:ByteArray) (a k:Nat):dvA s a (k+1)=dvA s a k * 10+(dgt s (a+k) - 48):=rfl
theorem dvA_add (s : ByteArray) (a k : Nat) : dvA s 0 (a + k) = dvA s 0 a * 10 ^ k + dvA s a k := by
  induction k with
  | zero => rw [Nat.add_zero, Nat.pow_zero, Nat.mul_one]; rfl
  | succ k ih =>
    rw [← Nat.add_assoc, dvA_succ, dvA_succ, ih, Nat.zero_add, Nat.pow_succ, Nat.add_mul, Nat.mul_assoc]
    omega
theorem dvA_lt {s : ByteArray} (h : DG s) (a k : Nat) : dvA s a k < 10 ^ k := by
  induction k with
  | zero => exact Nat.one_pos
  | succ k ih =>
    have := dgt_dg h (a + k)
    rw [dvA_succ, Nat.pow_succ]
    omega
theorem dvA_same {s t:ByteArray}{a b k:Nat}(h:∀ i,i<k → dgt s (a+i)=dgt t (b+i)):dvA s a k=dvA t b k:=by
 induction k with
 | zero=>rfl
 | succ k ih=>rw [dvA_succ,dvA_succ,ih fun i q=>h i (by omega),h k (by omega)]
theorem dvA_none {s:ByteArray}{a k:Nat}(h:∀ i,i<k → dgt s (a+i)=48):dvA s a k=0:=by
 induction k with
 | zero=>rfl
 | succ k ih=>rw [dvA_succ,ih fun i q=>h i (by omega),h k (by omega)]
theorem no_noughts (s : ByteArray) (n : Nat) : ∃ m, m ≤ n ∧ (∀ i, m ≤ i → i < n → dgt s i = 48) ∧ (m = 0 ∨ dgt s (m - 1) ≠ 48) := by
  induction n with
  | zero => exact ⟨0, Nat.le_refl _, fun i _ q => absurd q (by omega), .inl rfl⟩
  | succ n ih =>
    by_cases c : dgt s n = 48
    · obtain ⟨m, h1, h2, h3⟩ := ih
      refine ⟨m, by omega, fun i p q => ?_, h3⟩
      by_cases z : i = n
      · rw [z]; exact c
      · exact h2 i p (by omega)
    · exact ⟨n + 1, Nat.le_refl _, fun i p q => absurd p (by omega), .inr (by rw [Nat.add_sub_cancel]; exact c)⟩
theorem dgt_row {X K i:Nat}(h:i<K):dgt (rowText 10 X K) i=48+X / 10 ^ (K - 1 - i) % 10:=by
 have hs:i<(rowText 10 X K).size:=by rw [rowText_size];exact h
 rw [dgt_lt hs]
 have l:X / 10 ^ (K - 1 - i) % 10<10:=Nat.mod_lt _ (by decide)
 have e:(rowText 10 X K)[i]'hs=UInt8.ofNat (ch (X / 10 ^ (K - 1 - i) % 10)):=by
  unfold rowText strOfNums
  show (List.toArray _)[i]'_=_
  simp
 rw [e,UInt8.toNat_ofNat']
 unfold ch
 rw [if_pos l]
 exact Nat.mod_eq_of_lt (by omega)
theorem dg_row (X K:Nat):DG (rowText 10 X K):=by
 intro k h
 have h':k<K:=by rw [rowText_size] at h;exact h
 have e:=dgt_row (X:=X) h'
 rw [dgt_lt h] at e
 have l:X / 10 ^ (K - 1 - k) % 10<10:=Nat.mod_lt _ (by decide)
 omega
theorem dvA_row {X K : Nat} (hX : X < 10 ^ K) : ∀ k, k ≤ K → dvA (rowText 10 X K) 0 k = X / 10 ^ (K - k) := by
  intro k
  induction k with
  | zero => intro _; rw [Nat.sub_zero, Nat.div_eq_of_lt hX]; rfl
  | succ k ih =>
    intro h
    rw [dvA_succ, ih (by omega), Nat.zero_add, dgt_row (by omega), Nat.add_sub_cancel_left, show K - k = K - (k + 1) + 1 from by omega, Nat.pow_succ, ← Nat.div_div_eq_div_mul, show K - 1 - k = K - (k + 1) from by omega]
    omega
theorem row_first {X K:Nat}(hK:1≤K) (h0:10 ^ (K - 1)≤X) (hX:X<10 ^ K):dgt (rowText 10 X K) 0 ≠ 48:=by
 rw [dgt_row (by omega),Nat.sub_zero]
 have a:1≤X / 10 ^ (K - 1):=(Nat.le_div_iff_mul_le (Nat.pow_pos (by decide))).mpr (by rw [Nat.one_mul];exact h0)
 have b:X / 10 ^ (K - 1)<10:=by
  rw [Nat.div_lt_iff_lt_mul (Nat.pow_pos (by decide)),Nat.mul_comm,← Nat.pow_succ,show (K - 1).succ=K from by omega]
  exact hX
 rw [Nat.mod_eq_of_lt b]
 omega
theorem row_cut {X K m:Nat}(hX:X<10 ^ K) (hm:m≤K) (h:∀ i,m≤i → i<K → dgt (rowText 10 X K) i=48):X=dvA (rowText 10 X K) 0 m * 10 ^ (K - m):=by
 have a:=dvA_row hX K (Nat.le_refl _)
 rw [Nat.sub_self,Nat.pow_zero,Nat.div_one] at a
 have b:=dvA_add (rowText 10 X K) m (K - m)
 rw [show m+(K - m)=K from by omega,a,dvA_none fun i q=>h (m+i) (by omega) (by omega),Nat.add_zero] at b
 exact b
theorem dgt_pre {s:ByteArray}{m i:Nat}(hm:m≤s.size) (h:i<m):dgt (s.extract 0 m) i=dgt s i:=by
 have hs:i<(s.extract 0 m).size:=by rw [ByteArray.size_extract];omega
 rw [dgt_lt hs,dgt_lt (by omega:i<s.size)]
 congr 1
 rw [ByteArray.getElem_extract]
 congr 1
 omega
end Go.Proofs.YteeobndfnkeldaaGreatDoor
namespace Go.Proofs.YteeobndfnkeldaaGreatDoor
open Go.RowKit
structure DcB (W:World) (K:Nat) (a b c:Value):Prop where
 lt:K<W.heap.size
 a0:W.cell? ⟨K,0,none⟩=some a
 a1:W.cell? ⟨K,1,none⟩=some b
 a2:W.cell? ⟨K,2,none⟩=some c
 f0:W.frozen? ⟨K,0,none⟩=false
 f1:W.frozen? ⟨K,1,none⟩=false
 f2:W.frozen? ⟨K,2,none⟩=false
theorem DcB.step {W W':World}{K:Nat}{a b c:Value}(h:DcB W K a b c) (hb:Bl W W'):DcB W' K a b c:=by
 have k:=fun o=>hb.cell (p:=⟨K,o,none⟩) h.lt
 have j:=fun o=>hb.frozen (p:=⟨K,o,none⟩) h.lt
 exact ⟨Nat.lt_of_lt_of_le h.lt hb.size,(k 0).trans h.a0,(k 1).trans h.a1,(k 2).trans h.a2,(j 0).trans h.f0,(j 1).trans h.f1,(j 2).trans h.f2⟩
theorem DcB.new (W:World) (a b c:Value) (T:TypeId):DcB (W.alloc (.cells #[a,b,c] T)) W.heap.size a b c :=
 ⟨by simp,by simp,by simp,by simp,World.frozen?_alloc_new _ _ _ _,World.frozen?_alloc_new _ _ _ _,World.frozen?_alloc_new _ _ _ _⟩
def nrP (p:Int):Int:=if 500<p then 500 else if p < -500 then -500 else p
theorem nrP_in (p:Int):-500≤nrP p∧nrP p≤500:=by unfold nrP;split <;> (try split) <;> omega
def frN (s:ByteArray) (p:Int):Nat:=dvA s 0 s.size * 10 ^ (p - s.size).toNat
def frD (s:ByteArray) (p:Int):Nat:=10 ^ ((s.size:Int) - p).toNat
theorem dvA_pos {s:ByteArray}(hd:DG s) (hf:dgt s 0 ≠ 48) {k:Nat}(hk:0<k):0<dvA s 0 k:=by
 obtain ⟨j,rfl⟩:∃ j,k=1+j:=⟨k - 1,by omega⟩
 rw [dvA_add]
 have:=dgt_dg hd 0
 have e:dvA s 0 1=dgt s 0 - 48:=by rw [dvA_succ,Nat.add_zero];show 0 * 10+_=_;omega
 have:=Nat.mul_pos (show 0<dvA s 0 1 by omega) (Nat.pow_pos (n:=j) (show 0<10 by decide))
 omega
theorem VN.val {s:ByteArray}{p:Int}{c:Bool}(h:VN s p c):0<dvA s 0 s.size:=dvA_pos h.dg (by rw [dgt_lt h.pos];exact h.first) h.pos
end Go.Proofs.YteeobndfnkeldaaGreatDoor
