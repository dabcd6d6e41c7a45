/-
  Holds: VEwM IvK IvA IvD.
-/
import Derived.Laws.BitsAllLaws
import Derived.Test.YtblkokjkmbpejaaGreatDoorChecked
import Derived.Lib.ItoaNum
import Derived.Laws.Externs
import Derived.WalkKit
import Derived.WalkSpells
import Derived.WalkLawsBesides
import Derived.Lib.Mul64
import Derived.Lib.TrailingZeros
import Derived.Deep.OwnRows
import Derived.Laws.CopyOwn
import Derived.BigQuiet
import Derived.Deep.RegionHeld3
import Derived.Deep.LoopGhost
import Derived.Deep.AppendLies
import Derived.Deep.DeepCutAuto
import Derived.Stop.Asserts
import Derived.RowKitTokens
import Derived.Lib.Strings
import Derived.Lib.BufferWrite
import Derived.Lib.ConvBytes
import Derived.Test.YtblkokjkmbpejaaGreatDoorRows
import Derived.Test.YtblkokjkmbpejaaGreatDoorKf10
import Derived.Test.YtblkokjkmbpejaaGreatDoorKf11
import Derived.Test.YtblkokjkmbpejaaGreatDoorKf13
import Derived.Test.YtblkokjkmbpejaaGreatDoorKf20
import Derived.Test.YtblkokjkmbpejaaGreatDoorKf21
set_option maxRecDepth 100000
set_option maxHeartbeats 4000000
namespace Go.Proofs.YtblkokjkmbpejaaGreatDoor
theorem kB {s:ByteArray}(h:DG s) (i:Nat):48<=dgt s i/\dgt s i<=57:=by
 unfold dgt
 split
 . rename_i q;exact h i q
 . omega
def dvA (s:ByteArray) (a:Nat):Nat -> Nat
 | 0=>0
 | k+1=>dvA s a k * 10+(dgt s (a+k) - 48)
theorem dI (s:ByteArray) (a k:Nat):dvA s a (k+1)=dvA s a k * 10+(dgt s (a+k) - 48):=rfl
theorem lO      (s : ByteArray) (a k : Nat) : dvA s 0 (a + k) = dvA s 0 a * 10 ^ k + dvA s a k := by
  induction k with
  | zero => rw [Nat.add_zero, Nat.pow_zero, Nat.mul_one]; rfl
  | succ k ih =>
    rw [← Nat.add_assoc, dI      , dI      , ih, Nat.zero_add, Nat.pow_succ, Nat.add_mul, Nat.mul_assoc]
    omega
theorem kD     {s : ByteArray} (h : DG s) (a k : Nat) : dvA s a k < 10 ^ k := by
  induction k with
  | zero => exact Nat.one_pos
  | succ k ih =>
    have := kB     h (a + k)
    rw [dI      , Nat.pow_succ]
    omega
theorem qM {X K i:Nat}(h:i<K):dgt (aK 10 X K) i=48+X / 10 ^ (K - 1 - i) % 10:=by
 have hs:i<(aK 10 X K).size:=by rw [aT];exact h
 rw [aA hs]
 have l:X / 10 ^ (K - 1 - i) % 10<10:=Nat.mod_lt _ (by decide)
 have e:(aK 10 X K)[i]'hs=UInt8.ofNat (ch (X / 10 ^ (K - 1 - i) % 10)):=by
  unfold aK strOfNums
  show (List.toArray _)[i]'_=_
  simp
 rw [e,UInt8.toNat_ofNat']
 unfold ch
 rw [if_pos l]
 exact Nat.mod_eq_of_lt (by omega)
theorem aCL (X K:Nat):DG (aK 10 X K):=by
 intro k h
 have h':k<K:=by rw [aT] at h;exact h
 have e:=qM (X:=X) h'
 rw [aA h] at e
 have l:X / 10 ^ (K - 1 - k) % 10<10:=Nat.mod_lt _ (by decide)
 omega
theorem lM {s:ByteArray}{a b i:Nat}(hb:b<=s.size) (h:i<b - a):dgt (s.extract a b) i=dgt s (a+i):=by
 have hs:i<(s.extract a b).size:=by rw [ByteArray.size_extract];omega
 rw [aA hs,aA (by omega:a+i<s.size)]
 congr 1
 rw [ByteArray.getElem_extract]
theorem cC {X k n:Nat}(h:X<=10 ^ k) (hn:4 * k<32 * n):Fits n X:=by
 refine (aZ (s:=4 * k) hn).le (Nat.le_trans h ?_)
 rw [Nat.pow_mul]
 exact Nat.pow_le_pow_left (by decide) k
end Go.Proofs.YtblkokjkmbpejaaGreatDoor
namespace Go.Proofs.YtblkokjkmbpejaaGreatDoor
open Go.RowKit
def pwT (j:Nat):Nat:=10 ^ j
theorem yL     {X K : Nat} (_ : 1 ≤ K) (h0 : 10 ^ (K - 1) ≤ X) (hX : X < 10 ^ K) : Tx X (aK      10 X K) := by
  have rs := aT           10 X K
  have key : ∀ k, k ≤ K → pv (aK      10 X K) k = X / 10 ^ (K - k) := by
    intro k
    induction k with
    | zero => intro _; rw [Nat.sub_zero, Nat.div_eq_of_lt hX]; rfl
    | succ k ih =>
      intro h
      show 10 * pv (aK      10 X K) k + (dgt (aK      10 X K) k - 48) = _
      rw [ih (by omega), qM      (by omega), Nat.add_sub_cancel_left, show K - k = K - (k + 1) + 1 from by omega, Nat.pow_succ, ← Nat.div_div_eq_div_mul, show K - 1 - k = K - (k + 1) from by omega]
      omega
  refine ⟨by rw [rs]; exact hX, fun _ => by rw [rs]; exact h0, aCL    X K, ?_⟩
  have q := key K (Nat.le_refl _)
  rw [Nat.sub_self, Nat.pow_zero, Nat.div_one] at q
  rw [rs]
  exact q
theorem Tx.len {X K:Nat}{t:ByteArray}(T:Tx X t) (X0:0<X) (hK':X<pwT K):0<t.size/\t.size<=K:=by
 have hK:X<10 ^ K:=hK'
 have a:=T.lt
 have p:0<t.size:=by
  apply Nat.pos_of_ne_zero
  intro z
  rw [z,Nat.pow_zero] at a
  omega
 refine ⟨p,?_⟩
 apply Nat.le_of_not_lt
 intro c
 have:=Nat.pow_le_pow_right (n:=10) (by decide) (show K<=t.size - 1 by omega)
 have:=T.lo p
 omega
theorem Tx.first {X : Nat} {t : ByteArray} (T : Tx X t) (h : 0 < t.size) : dgt t 0 ≠ 48 := by
  intro c
  obtain ⟨n, hn⟩ : ∃ n, t.size = 1 + n := ⟨t.size - 1, by omega⟩
  have e : ∀ k, pv t (1 + k) < 10 ^ k := by
    intro k
    induction k with
    | zero =>
      show 10 * 0 + (dgt t 0 - 48) < 10 ^ 0
      rw [c]; decide
    | succ k ih =>
      have := aF     T.dg (1 + k)
      show 10 * pv t (1 + k) + (dgt t (1 + k) - 48) < 10 ^ (k + 1)
      rw [Nat.pow_succ]
      omega
  have a := e n
  rw [← hn, T.vl] at a
  have b := T.lo h
  rw [hn, Nat.add_sub_cancel_left] at b
  omega
def Mz (t s2:ByteArray):Prop:=∃ m,m<=t.size/\0<m/\(∀ i,m<=i -> i<t.size -> dgt t i=48)/\dgt t (m - 1) ≠ 48/\s2=t.extract 0 m
theorem aBf {X:Nat}{t:ByteArray}(T:Tx X t) (h0:0<t.size) (hl:t.size<=800) {p:Int}(lo:(t.size:Int)<=p+(R0:Int)) (hp:p<=2000) :
 ∃ s2,Dx s2 p (X * 10 ^ (p+(R0:Int) - (t.size:Int)).toNat)/\Mz t s2:=by
 have f0:=T.first h0
 obtain ⟨m,hm,h1,h2⟩:=gR t t.size
 have m0:0<m:=by
  rcases Nat.eq_zero_or_pos m with c | c
  . exact absurd (h1 0 (by omega) h0) f0
  . exact c
 have z:=aI (s:=t) (k:=m) hm
 have lo':-1100<=p:=by unfold R0 at lo;omega
 refine ⟨t.extract 0 m,⟨Or.inr (eB ⟨by omega,fO T.dg hm,by rw [aL hm m0];exact f0,by rw [z,aL hm (by omega)];exact h2 m0⟩ (by omega) (by omega) (by omega)),by omega,?_⟩,m,hm,m0,h1,h2 m0,rfl⟩
 rw [z,cW (s:=t.extract 0 m) (t:=t) m (fun j hj=>aL hm hj)]
 have q:=cT (s:=t) (m:=m) (t.size - m) (fun i a b=>h1 i a (by omega))
 rw [show m+(t.size - m)=t.size by omega,T.vl] at q
 rw [q,Nat.mul_assoc,<- Nat.pow_add]
 congr 2
 omega
theorem aBR {X:Nat}{t s2:ByteArray}(T:Tx X t) (h0:0<t.size) (hl:t.size<=800) {p:Int}(lo:-2000<=p) (hp:p<=2000) (M:Mz t s2) (W:World) :
 Cb 127 #[.string t,vI p,.bool false] W (.tuple #[dcV s2 p false,.nilIface]):=by
 obtain ⟨m,hm,m0,h1,h2,rfl⟩:=M
 have ea:t.extract 0 t.size=t:=bL t
 have q:=zJ (t:=t) (p:=p) (by omega) T.dg (z:=0) h0 (fun i a=>absurd a (by omega)) (T.first h0) ea (fun W=>lD t (by omega) m hm (fun i a b=>by rw [<- aA b];exact h1 i a b) (fun c=>by rw [<- aA (by omega)];exact h2) W) (by omega) (by omega) ⟨by omega,by omega⟩ W
 rw [show p - ((0:Nat):Int)=p by omega] at q
 exact q
theorem aC5 {X:Nat}{t s2:ByteArray}(T:Tx X t) (h0:0<t.size) (hl:t.size<=800) {p:Int}(lo:-2000<=p) (hp:p<=2000) (M:Mz t s2) (W:World) :
 Cb 46 #[.string t,vI p,.bool false] W (.tuple #[dcV s2 p false,vI 0]):=by
 obtain ⟨m,hm,m0,h1,h2,rfl⟩:=M
 have ea:t.extract 0 t.size=t:=bL t
 have q:=oR (t:=t) (p:=p) (by omega) T.dg (z:=0) h0 (fun i a=>absurd a (by omega)) (T.first h0) ea hl hm m0 h1 h2 (by omega) (by omega) ⟨by omega,by omega⟩ W
 rw [show p - ((0:Nat):Int)=p by omega] at q
 exact q
def wh (m:Nat) (k j:Nat):Nat:=m * 5 ^ k * 2 ^ j
theorem iM {m:Nat}(h:0<m) (k j:Nat):0<wh m k j:=Nat.mul_pos (Nat.mul_pos h (Nat.pow_pos (by decide))) (Nat.pow_pos (by decide))
def pw5 (j:Nat):Nat:=5 ^ j
def pw2 (j:Nat):Nat:=2 ^ j
theorem vX:pw2 54 * pw5 1075<pwT 800:=by decide +kernel
theorem aAY:pw2 54 * pw2 971<pwT 800:=by decide +kernel
theorem mF:pw2 54 * pw5 1075<pw2 8192:=by decide +kernel
theorem gH {a b:Nat}(h:a<=b):pw5 a<=pw5 b:=Nat.pow_le_pow_right (by decide) h
theorem gG {a b:Nat}(h:a<=b):pw2 a<=pw2 b:=Nat.pow_le_pow_right (by decide) h
structure Kj (m k j:Nat):Prop where
 hm:m<=18014398509481984
 hk:k<=1075
 hj:j<=971
 o:k=0 \/ j=0
theorem Kj.wh {m k j:Nat}(h:Kj m k j):wh m k j<pwT 800:=by
 have hm:m<=pw2 54:=h.hm
 unfold Go.Proofs.YtblkokjkmbpejaaGreatDoor.wh
 rcases h.o with z | z
 . subst z
   rw [Nat.pow_zero,Nat.mul_one]
   exact Nat.lt_of_le_of_lt (Nat.mul_le_mul hm (gG h.hj)) aAY
 . subst z
   rw [Nat.pow_zero,Nat.mul_one]
   exact Nat.lt_of_le_of_lt (Nat.mul_le_mul hm (gH h.hk)) vX
theorem Kj.five {m k j:Nat}(h:Kj m k j):m * 5 ^ k<pw2 8192:=Nat.lt_of_le_of_lt (Nat.mul_le_mul (show m<=pw2 54 from h.hm) (gH h.hk)) mF
theorem aAW:pwT 800<pw2 8192:=by decide +kernel
theorem Kj.fv {m k j:Nat}(h:Kj m k j) {e:Int}(he:e=(j:Int) - (k:Int)):fv m e=Go.Proofs.YtblkokjkmbpejaaGreatDoor.wh m k j * 10 ^ (R0 - k):=by
 unfold Go.Proofs.YtblkokjkmbpejaaGreatDoor.wh
 rcases h.o with z | z
 . subst z
   rw [show e=(j:Int) by omega,nW,Nat.pow_zero,Nat.mul_one,Nat.sub_zero]
 . subst z
   rw [show e = -(k:Int) by omega,vY (by have:=h.hk;unfold R0;omega),Nat.pow_zero,Nat.mul_one]
theorem Kj.lens {m k j:Nat}(h:Kj m k j) (m0:0<m) {t:ByteArray}(T:Tx (Go.Proofs.YtblkokjkmbpejaaGreatDoor.wh m k j) t):0<t.size/\t.size<=800:=T.len (iM m0 k j) h.wh
theorem Kj.mz {m k j:Nat}(h:Kj m k j) (m0:0<m) {s:ByteArray}{q:Int}(D:Dx s q (Go.Proofs.YtblkokjkmbpejaaGreatDoor.fv m ((j:Int) - (k:Int)))) {t:ByteArray}(T:Tx (Go.Proofs.YtblkokjkmbpejaaGreatDoor.wh m k j) t):q=(t.size:Int) - (k:Int)/\Mz t s:=by
 obtain ⟨a,b⟩:=h.lens m0 T
 have hk:=h.hk
 obtain ⟨s2,D2,M⟩:=aBf T a b (p:=(t.size:Int) - (k:Int)) (by unfold R0;omega) (by omega)
 rw [show ((t.size:Int) - (k:Int)+(R0:Int) - (t.size:Int)).toNat=R0 - k by omega,<- h.fv rfl] at D2
 obtain ⟨rfl,e⟩:=D2.uniq D
 exact ⟨e.symm,M⟩
theorem Kj.make {m k j:Nat}(h:Kj m k j) (m0:0<m) {s:ByteArray}{q:Int}(D:Dx s q (Go.Proofs.YtblkokjkmbpejaaGreatDoor.fv m ((j:Int) - (k:Int)))) {t:ByteArray}(T:Tx (Go.Proofs.YtblkokjkmbpejaaGreatDoor.wh m k j) t) (W:World) :
 Cb 127 #[.string t,vI ((t.size:Int) - (k:Int)),.bool false] W (.tuple #[dcV s q false,.nilIface]):=by
 obtain ⟨a,b⟩:=h.lens m0 T
 have hk:=h.hk
 obtain ⟨e,M⟩:=h.mz m0 D T
 rw [e]
 exact aBR T a b (by omega) (by omega) M W
theorem Kj.rmake {m k j:Nat}(h:Kj m k j) (m0:0<m) {s:ByteArray}{q:Int}(D:Dx s q (Go.Proofs.YtblkokjkmbpejaaGreatDoor.fv m ((j:Int) - (k:Int)))) {t:ByteArray}(T:Tx (Go.Proofs.YtblkokjkmbpejaaGreatDoor.wh m k j) t) (W:World) :
 Cb 46 #[.string t,vI ((t.size:Int) - (k:Int)),.bool false] W (.tuple #[dcV s q false,vI 0]):=by
 obtain ⟨a,b⟩:=h.lens m0 T
 have hk:=h.hk
 obtain ⟨e,M⟩:=h.mz m0 D T
 rw [e]
 exact aC5 T a b (by omega) (by omega) M W
theorem vV     {m : Nat} {e : Int} (hm : m ≤ 18014398509481984) (h1 : -1075 ≤ e) (h2 : e ≤ 971) : ∃ s q, Dx s q (fv m e) := by
  by_cases m0 : 0 < m
  · obtain ⟨k, j, h, he⟩ : ∃ k j, Kj m k j ∧ e = (j : Int) - (k : Int) := by
      rcases Int.lt_or_le e 0 with c | c
      · exact ⟨(-e).toNat, 0, ⟨hm, by omega, by omega, Or.inr rfl⟩, by omega⟩
      · exact ⟨0, e.toNat, ⟨hm, by omega, by omega, Or.inl rfl⟩, by omega⟩
    have wp := iM     m0 k j
    obtain ⟨K, k1, k2, k3⟩ : ∃ K, 1 ≤ K ∧ 10 ^ (K - 1) ≤ wh m k j ∧ wh m k j < 10 ^ K := by
      have key : ∀ n, wh m k j < pwT n → ∃ K, 1 ≤ K ∧ 10 ^ (K - 1) ≤ wh m k j ∧ wh m k j < 10 ^ K := by
        intro n
        induction n with
        | zero => intro g; have g' : wh m k j < 1 := g; omega
        | succ n ih =>
          intro g
          by_cases c : wh m k j < pwT n
          · exact ih c
          · exact ⟨n + 1, by omega, by rw [Nat.add_sub_cancel]; exact Nat.le_of_not_lt c, g⟩
      exact key 800 h.wh
    have T := yL     k1 k2 k3
    have a := h.lens m0 T
    rw [aT          ] at a
    have hk := h.hk
    obtain ⟨s2, D2, _⟩ := aBf   T (by rw [aT          ]; omega) (by rw [aT          ]; omega) (p := (K : Int) - (k : Int)) (by rw [aT          ]; unfold R0; omega) (by omega)
    rw [aT          , show ((K : Int) - (k : Int) + (R0 : Int) - (K : Int)).toNat = R0 - k by omega, ← h.fv he] at D2
    exact ⟨_, _, D2⟩
  · obtain rfl : m = 0 := by omega
    rw [iR     ]
    exact ⟨_, _, aW       ⟩
structure Bk (W:World) (K:Nat) (l:List Value):Prop where
 lt:K<W.heap.size
 cell:∀ i v,l[i]?=some v -> W.cell? ⟨K,i,none⟩=some v
 fz:∀ i,W.frozen? ⟨K,i,none⟩=false
theorem Bk.step {W W':World}{K:Nat}{l:List Value}(h:Bk W K l) (hb:Bl W W'):Bk W' K l :=
 ⟨Nat.lt_of_lt_of_le h.lt hb.size,fun i v q=>(hb.cell (p:=⟨K,i,none⟩) h.lt).trans (h.cell i v q),fun i=>(hb.frozen (p:=⟨K,i,none⟩) h.lt).trans (h.fz i)⟩
theorem Bk.new3 (W:World) (a b c:Value) (T:TypeId):Bk (W.alloc (.cells #[a,b,c] T)) W.heap.size [a,b,c] :=
 ⟨by simp,fun i v q=>by
  match i,q with
  | 0,q=>cases q;simp
  | 1,q=>cases q;simp
  | 2,q=>cases q;simp
  | n+3,q=>simp at q,fun i=>World.frozen?_alloc_new _ _ _ _⟩
theorem Bk.new4 (W:World) (a b c d:Value) (T:TypeId):Bk (W.alloc (.cells #[a,b,c,d] T)) W.heap.size [a,b,c,d] :=
 ⟨by simp,fun i v q=>by
  match i,q with
  | 0,q=>cases q;simp
  | 1,q=>cases q;simp
  | 2,q=>cases q;simp
  | 3,q=>cases q;simp
  | n+4,q=>simp at q,fun i=>World.frozen?_alloc_new _ _ _ _⟩
theorem Bk.new7 (W:World) (a b c d e f g:Value) (T:TypeId):Bk (W.alloc (.cells #[a,b,c,d,e,f,g] T)) W.heap.size [a,b,c,d,e,f,g] :=
 ⟨by simp,fun i v q=>by
  match i,q with
  | 0,q=>cases q;simp
  | 1,q=>cases q;simp
  | 2,q=>cases q;simp
  | 3,q=>cases q;simp
  | 4,q=>cases q;simp
  | 5,q=>cases q;simp
  | 6,q=>cases q;simp
  | n+7,q=>simp at q,fun i=>World.frozen?_alloc_new _ _ _ _⟩
theorem Bp2 (q:Nat):B ^ q=pw2 (64 * q):=sE q
theorem Kj.nat {m k j:Nat}(h:Kj m k j):5 ^ k<B ^ 128/\m * 5 ^ k<B ^ 128/\m * 5 ^ k * 2 ^ j<B ^ 128:=by
 have e:B ^ 128=pw2 8192:=by
  rw [Bp2]
 have p:0<pw2 54:=by decide +kernel
 have z:pw5 k<pw2 8192:=Nat.lt_of_le_of_lt (Nat.le_trans (gH h.hk) (Nat.le_mul_of_pos_left (pw5 1075) p)) mF
 rw [e]
 exact ⟨z,h.five,Nat.lt_trans h.wh aAW⟩
theorem rB {m k j:Nat}(h:Kj m k j) (m0:0<m) {e:Int}(he:e=(j:Int) - (k:Int)) {s:ByteArray}{q:Int}(D:Dx s q (fv m e)) (w:World) :
 Cb 84 #[vU (m:Int),vI e] w (dcV s q false):=by
 rw [he] at D
 obtain ⟨f1,f2,f3⟩:=h.nat
 have hk:=h.hk
 have hj:=h.hj
 have PW:=fun W=>oK 5 k (by unfold B;decide) (by omega) f1 W
 have OF:=fun W=>kQ m (by have:=h.hm;unfold B;omega) W
 simp only [Int.cast_ofNat_Int] at PW
 have HM:Hid (m * 5 ^ k<B ^ 128/\m * 5 ^ k * 2 ^ j<B ^ 128):=⟨f2,f3⟩
 have HX:Hid (wh m k j ≠ 0/\m * 5 ^ k * 2 ^ j=wh m k j/\∀ K,1<=K -> 10 ^ (K - 1)<=wh m k j -> wh m k j<10 ^ K -> (aK 10 (wh m k j) K).size=K/\K<=800/\∀ W,Cb 127 #[.string (aK 10 (wh m k j) K),vI ((K:Int) - (k:Int)),.bool false] W (.tuple #[dcV s q false,.nilIface])):=by
  refine ⟨Nat.ne_of_gt (iM m0 k j),rfl,fun K k1 k2 k3=>?_⟩
  have T:=yL k1 k2 k3
  have rs:=aT 10 (wh m k j) K
  obtain ⟨a,b⟩:=h.lens m0 T
  refine ⟨rs,by omega,fun W=>?_⟩
  have M:=h.make m0 D T W
  rw [rs] at M
  exact M
 have HO:Hid (k=0 \/ j=0):=h.o
 have HE:Hid (e=(j:Int) - (k:Int)):=he
 clear f1 f2 f3 D h m0 he
 unfold dcV at *
 generalize wh m k j=X at *
 generalize 5 ^ k=F at *
 have F0:Hid (Bk (w.alloc (.cells #[.string ⟨#[]⟩,vI 0,.bool false] 24)) w.heap.size [.string ⟨#[]⟩,vI 0,.bool false]/\Bl w (w.alloc (.cells #[.string ⟨#[]⟩,vI 0,.bool false] 24))):=⟨Bk.new3 w _ _ _ _,bz _ _⟩
 go_enter Tryz.func84,Tryz.ntmps84
 go_upto_region 1 with fail
 generalize (w.alloc (.cells #[.string ⟨#[]⟩,vI 0,.bool false] 24))=w0 at *
 go_cut [5] (fun pv wx=>wx=w0/\pv=vI (k:Int))
 case first =>
  go_wp2
  all_goals go_meet
  all_goals exact ⟨rfl,congrArg (Value.int .i64) (by have:=HE.out;have:=HO.out;have:=IntWalk.wrap64_in (-e) ⟨by omega,by omega⟩;omega)⟩
 case rest =>
 obtain ⟨hcw,rfl⟩:=hcut
 have hcw2:=hcw.symm
 subst hcw2
 go_wp2_with fail
 refine (PW _).mono ?_
 rintro o w1 ⟨v1,rfl,n1,b1⟩
 have F1:Hid (Bk w1 w.heap.size [.string ⟨#[]⟩,vI 0,.bool false]/\Bl w w1/\NatV w1 v1 F):=⟨F0.out.1.step b1,F0.out.2.trans (b1.mono F0.out.2.size),n1⟩
 clear b1 n1 PW F0
 go_wp2_with fail
 refine (OF _).mono ?_
 rintro o w2 ⟨v2,rfl,n2,b2⟩
 have F2:Hid (Bk w2 w.heap.size [.string ⟨#[]⟩,vI 0,.bool false]/\Bl w w2/\NatV w2 v1 F/\NatV w2 v2 m):=⟨F1.out.1.step b2,F1.out.2.1.trans (b2.mono F1.out.2.1.size),F1.out.2.2.below b2,n2⟩
 clear b2 n2 OF F1
 have MU:=wS F2.out.2.2.2 F2.out.2.2.1 HM.out.1
 go_wp2_with fail
 refine MU.mono ?_
 rintro o w3 ⟨v3,rfl,n3,b3⟩
 have F3:Hid (Bk w3 w.heap.size [.string ⟨#[]⟩,vI 0,.bool false]/\Bl w w3/\NatV w3 v3 (m * F)):=⟨F2.out.1.step b3,F2.out.2.1.trans (b3.mono F2.out.2.1.size),n3⟩
 clear b3 n3 MU F2
 have SH:∀ x:Int,x=(j:Int) -> Calls Tryz.prog 125 #[v3,vI x] w3 fun e w'=>∃ v,e=.returned (.tuple #[v,.nilIface])/\NatV w' v X/\Bl w3 w':=fun x hx=>by
  subst hx
  have q:=xR F3.out.2.2 j HM.out.2 (by omega)
  rw [HX.out.2.1] at q
  exact q
 go_wp2_with fail
 all_goals
  refine (SH _ ?_).mono ?_
  . have:=HE.out;have:=HO.out;omega
  rintro o w4 ⟨v4,rfl,n4,b4⟩
  have F4:Hid (Bk w4 w.heap.size [.string ⟨#[]⟩,vI 0,.bool false]/\Bl w w4/\NatV w4 v4 X):=⟨F3.out.1.step b4,F3.out.2.1.trans (b4.mono F3.out.2.1.size),n4⟩
  clear b4 n4 SH F3
  have DG:=sU F4.out.2.2 HX.out.1 10 (by decide) (by decide)
  simp only [Int.cast_ofNat_Int] at DG
  go_wp2_with fail
  refine DG.mono ?_
  rintro o w5 ⟨K,rfl,k1,k2,k3,b5⟩
  obtain ⟨rs,k8,MK⟩:=HX.out.2.2 K k1 k2 k3
  have F5:Hid (Bk w5 w.heap.size [.string ⟨#[]⟩,vI 0,.bool false]/\Bl w w5):=⟨F4.out.1.step b5,F4.out.2.1.trans (b5.mono F4.out.2.1.size)⟩
  clear b5 DG F4 k1 k2 k3 HX HM HE HO
  generalize aK 10 X K=rt at *
  go_wp2_with fail
  refine (MK _).mono ?_
  rintro o w6 ⟨rfl,b6⟩
  have F6:Hid (Bk w6 w.heap.size [.string ⟨#[]⟩,vI 0,.bool false]/\Bl w w6):=⟨F5.out.1.step b6,F5.out.2.trans (b6.mono F5.out.2.size)⟩
  clear b6 MK F5
  have l6:=F6.out.1.lt
  have a0:=F6.out.1.cell 0 _ rfl
  have a1:=F6.out.1.cell 1 _ rfl
  have a2:=F6.out.1.cell 2 _ rfl
  have f0:=F6.out.1.fz 0
  have f1:=F6.out.1.fz 1
  have f2:=F6.out.1.fz 2
  go_wp2
  exact bodyPost_ret (v:=.agg #[.string s,vI q,.bool false]) (by simp [results,Tryz.results84,go_sem,World.cell?_setCell_same,World.cell?_setCell_other, *]) rfl ⟨rfl,(((F6.out.2.setCell (Nat.le_refl _) _).setCell (Nat.le_refl _) _).setCell (Nat.le_refl _) _).alloc (by simpa using F6.out.2.size) _⟩
theorem mC:DG ⟨#[48]⟩:=by
 intro k h
 obtain rfl:k=0:=by have:k<1:=h;omega
 exact (by decide:48<=(48:UInt8).toNat/\(48:UInt8).toNat<=57)
theorem xA {k:Nat}(k0:0<k) (hk:k<=1075) (w:World) :
 Cb 84 #[vU 0,vI (-(k:Int))] w (dcV ⟨#[]⟩ 0 false):=by
 have KJ:Kj 0 k 0:=⟨Nat.zero_le _,hk,Nat.zero_le _,Or.inr rfl⟩
 obtain ⟨f1,f2,f3⟩:=KJ.nat
 have PW:=fun W=>oK 5 k (by unfold B;decide) (by omega) f1 W
 have OF:=fun W=>kQ 0 (by unfold B;omega) W
 simp only [Int.cast_ofNat_Int] at PW OF
 rw [Nat.zero_mul] at f2
 have HM:Hid (0<B ^ 128):=f2
 have MK:∀ W,Cb 127 #[.string ⟨#[48]⟩,vI (1 - (k:Int)),.bool false] W (.tuple #[dcV ⟨#[]⟩ 0 false,.nilIface]):=fun W =>
  sX (t:=⟨#[48]⟩) (by decide) (by decide) mC (fun i hi=>by
   have:i=0:=by have:i<1:=hi;omega
   subst this
   decide) W
 clear f1 f2 f3 KJ
 unfold dcV at *
 generalize 5 ^ k=F at *
 have F0:Hid (Bk (w.alloc (.cells #[.string ⟨#[]⟩,vI 0,.bool false] 24)) w.heap.size [.string ⟨#[]⟩,vI 0,.bool false]/\Bl w (w.alloc (.cells #[.string ⟨#[]⟩,vI 0,.bool false] 24))):=⟨Bk.new3 w _ _ _ _,bz _ _⟩
 go_enter Tryz.func84,Tryz.ntmps84
 go_upto_region 1 with fail
 generalize (w.alloc (.cells #[.string ⟨#[]⟩,vI 0,.bool false] 24))=w0 at *
 go_cut [5] (fun pv wx=>wx=w0/\pv=vI (k:Int))
 case first =>
  go_wp2
  all_goals go_meet
  all_goals exact ⟨rfl,congrArg (Value.int .i64) (by omega)⟩
 case rest =>
 obtain ⟨hcw,rfl⟩:=hcut
 have hcw2:=hcw.symm
 subst hcw2
 go_wp2_with fail
 refine (PW _).mono ?_
 rintro o w1 ⟨v1,rfl,n1,b1⟩
 have F1:Hid (Bk w1 w.heap.size [.string ⟨#[]⟩,vI 0,.bool false]/\Bl w w1/\NatV w1 v1 F):=⟨F0.out.1.step b1,F0.out.2.trans (b1.mono F0.out.2.size),n1⟩
 clear b1 n1 PW F0
 go_wp2_with fail
 refine (OF _).mono ?_
 rintro o w2 ⟨v2,rfl,n2,b2⟩
 have F2:Hid (Bk w2 w.heap.size [.string ⟨#[]⟩,vI 0,.bool false]/\Bl w w2/\NatV w2 v1 F/\NatV w2 v2 0):=⟨F1.out.1.step b2,F1.out.2.1.trans (b2.mono F1.out.2.1.size),F1.out.2.2.below b2,n2⟩
 clear b2 n2 OF F1
 have MU:=wS F2.out.2.2.2 F2.out.2.2.1 (by rw [Nat.zero_mul];exact HM.out)
 rw [Nat.zero_mul] at MU
 go_wp2_with fail
 refine MU.mono ?_
 rintro o w3 ⟨v3,rfl,n3,b3⟩
 have F3:Hid (Bk w3 w.heap.size [.string ⟨#[]⟩,vI 0,.bool false]/\Bl w w3/\NatV w3 v3 0):=⟨F2.out.1.step b3,F2.out.2.1.trans (b3.mono F2.out.2.1.size),n3⟩
 clear b3 n3 MU F2
 have SH:=xR F3.out.2.2 0 (by rw [Nat.zero_mul];exact HM.out) (by omega)
 rw [Nat.zero_mul] at SH
 simp only [Int.cast_ofNat_Int] at SH
 go_wp2_with fail
 all_goals first | (exfalso;omega) | skip
 refine SH.mono ?_
 rintro o w4 ⟨v4,rfl,n4,b4⟩
 obtain ⟨ao,n,c,b,o,f,rfl,S,tp,hv,_⟩:=n4
 obtain rfl:n=0:=by
  apply Nat.eq_zero_of_not_pos
  intro z
  have q:=Top_ge tp z
  have:=Nat.pow_pos (n:=n - 1) B_pos
  omega
 have F4:Hid (Bk w4 w.heap.size [.string ⟨#[]⟩,vI 0,.bool false]/\Bl w w4):=⟨F3.out.1.step b4,F3.out.2.1.trans (b4.mono F3.out.2.1.size)⟩
 have DG:=pM S 10 (by decide) (by decide)
 simp only [Int.cast_ofNat_Int] at DG
 clear b4 S tp hv SH F3
 go_wp2_with fail
 refine DG.mono ?_
 rintro o w5 ⟨rfl,b5⟩
 have F5:Hid (Bk w5 w.heap.size [.string ⟨#[]⟩,vI 0,.bool false]/\Bl w w5):=⟨F4.out.1.step b5,F4.out.2.trans (b5.mono F4.out.2.size)⟩
 clear b5 DG F4 HM
 go_wp2_with fail
 refine (MK _).mono ?_
 rintro o w6 ⟨rfl,b6⟩
 have F6:Hid (Bk w6 w.heap.size [.string ⟨#[]⟩,vI 0,.bool false]/\Bl w w6):=⟨F5.out.1.step b6,F5.out.2.trans (b6.mono F5.out.2.size)⟩
 clear b6 MK F5
 have l6:=F6.out.1.lt
 have a0:=F6.out.1.cell 0 _ rfl
 have a1:=F6.out.1.cell 1 _ rfl
 have a2:=F6.out.1.cell 2 _ rfl
 have f0:=F6.out.1.fz 0
 have f1:=F6.out.1.fz 1
 have f2:=F6.out.1.fz 2
 go_wp2
 exact bodyPost_ret (v:=.agg #[.string ⟨#[]⟩,vI 0,.bool false]) (by simp [results,Tryz.results84,go_sem,World.cell?_setCell_same,World.cell?_setCell_other, *]) rfl ⟨rfl,(((F6.out.2.setCell (Nat.le_refl _) _).setCell (Nat.le_refl _) _).setCell (Nat.le_refl _) _).alloc (by simpa using F6.out.2.size) _⟩
theorem oJ {m:Nat}{e:Int}(hm:m<=18014398509481984) (h1:-1075<=e) (h2:e<=971) (h0:0<m \/ e<0) {s:ByteArray}{q:Int}(D:Dx s q (fv m e)) (w:World) :
 Cb 84 #[vU (m:Int),vI e] w (dcV s q false):=by
 by_cases m0:0<m
 . rcases Int.lt_or_le e 0 with c | c
   . exact rB (k:=(-e).toNat) (j:=0) ⟨hm,by omega,by omega,Or.inr rfl⟩ m0 (by omega) D w
   . exact rB (k:=0) (j:=e.toNat) ⟨hm,by omega,by omega,Or.inl rfl⟩ m0 (by omega) D w
 . obtain rfl:m=0:=by omega
   obtain ⟨k,rfl⟩:∃ k:Nat,e = -(k:Int):=⟨(-e).toNat,by omega⟩
   rw [iR] at D
   obtain ⟨rfl,rfl⟩:=D.uniq aW
   exact xA (by omega) (by omega) w
theorem aD6 {b z:Int}{c:Bool}{k M E:Int}{s:ByteArray}{p:Int}(HF:∀ W,Cb 83 #[vU b,vI z] W (.tuple #[.agg #[.bool c,vI k,vU M,vI E],.nilIface])) (HD:∀ W,Cb 84 #[vU M,vI E] W (.agg #[.string s,vI p,.bool false])) (w:World) :
 Cb 51 #[vU b,vI z] w (.tuple #[.agg #[.string s,vI p,.bool false],.nilIface]):=by
 have F0:Hid (Bk (w.alloc (.cells #[.string ⟨#[]⟩,vI 0,.bool false] 24)) (w.heap.size) [.string ⟨#[]⟩,vI 0,.bool false]/\Bl w (w.alloc (.cells #[.string ⟨#[]⟩,vI 0,.bool false] 24))):=⟨Bk.new3 w (.string ⟨#[]⟩) (vI 0) (.bool false) 24,((Below.refl w.heap.size w)).alloc (Nat.le_refl _) _⟩
 go_enter Tryz.func51,Tryz.ntmps51
 go_upto_region 1 with fail
 generalize (w.alloc (.cells #[.string ⟨#[]⟩,vI 0,.bool false] 24))=w1 at *
 go_wp2_with fail
 all_goals first | (exfalso;omega) | skip
 refine (HF _).mono ?_
 rintro o2 w2 ⟨rfl,bb⟩
 have F1:Hid (Bk w2 (w.heap.size) [.string ⟨#[]⟩,vI 0,.bool false]/\Bl w w2):=⟨(F0.out.1).step bb,(F0.out.2).trans (bb.mono (F0.out.2).size)⟩
 clear F0
 clear bb
 have lt0_1:=(F1.out.1).lt
 have le1:=(F1.out.2).size
 have F2:Hid (Bk (w2.alloc (.cells #[.bool c,vI k,vU M,vI E] 128)) (w.heap.size) [.string ⟨#[]⟩,vI 0,.bool false]/\Bk (w2.alloc (.cells #[.bool c,vI k,vU M,vI E] 128)) (w2.heap.size) [.bool c,vI k,vU M,vI E]/\Bl w (w2.alloc (.cells #[.bool c,vI k,vU M,vI E] 128))):=⟨(F1.out.1).step (bz _ _),Bk.new4 w2 (.bool c) (vI k) (vU M) (vI E) 128,(F1.out.2).alloc ((F1.out.2).size) _⟩
 clear F1
 go_upto_region 2 with fail
 generalize (w2.alloc (.cells #[.bool c,vI k,vU M,vI E] 128))=w3 at *
 have l1_0:=F2.out.1.lt
 have a1_0_0:=F2.out.1.cell 0 _ rfl
 have f1_0_0:=F2.out.1.fz 0
 have a1_0_1:=F2.out.1.cell 1 _ rfl
 have f1_0_1:=F2.out.1.fz 1
 have a1_0_2:=F2.out.1.cell 2 _ rfl
 have f1_0_2:=F2.out.1.fz 2
 have l1_1:=F2.out.2.1.lt
 have a1_1_0:=F2.out.2.1.cell 0 _ rfl
 have f1_1_0:=F2.out.2.1.fz 0
 have a1_1_1:=F2.out.2.1.cell 1 _ rfl
 have f1_1_1:=F2.out.2.1.fz 1
 have a1_1_2:=F2.out.2.1.cell 2 _ rfl
 have f1_1_2:=F2.out.2.1.fz 2
 have a1_1_3:=F2.out.2.1.cell 3 _ rfl
 have f1_1_3:=F2.out.2.1.fz 3
 have ne1_0_1:¬ w.heap.size=w2.heap.size:=by omega
 have ne1_1_0:¬ w2.heap.size=w.heap.size:=by omega
 go_wp2_with fail
 all_goals first | (exfalso;omega) | skip
 refine (HD _).mono ?_
 rintro o4 w4 ⟨rfl,bb⟩
 have F3:Hid (Bk w4 (w.heap.size) [.string ⟨#[]⟩,vI 0,.bool false]/\Bk w4 (w2.heap.size) [.bool c,vI k,vU M,vI E]/\Bl w w4):=⟨(F2.out.1).step bb,(F2.out.2.1).step bb,(F2.out.2.2).trans (bb.mono (F2.out.2.2).size)⟩
 clear F2
 clear bb
 clear l1_0 a1_0_0 f1_0_0 a1_0_1 f1_0_1 a1_0_2 f1_0_2 l1_1 a1_1_0 f1_1_0 a1_1_1 f1_1_1 a1_1_2 f1_1_2 a1_1_3 f1_1_3
 have l2_0:=F3.out.1.lt
 have a2_0_0:=F3.out.1.cell 0 _ rfl
 have f2_0_0:=F3.out.1.fz 0
 have a2_0_1:=F3.out.1.cell 1 _ rfl
 have f2_0_1:=F3.out.1.fz 1
 have a2_0_2:=F3.out.1.cell 2 _ rfl
 have f2_0_2:=F3.out.1.fz 2
 have l2_1:=F3.out.2.1.lt
 have a2_1_0:=F3.out.2.1.cell 0 _ rfl
 have f2_1_0:=F3.out.2.1.fz 0
 have a2_1_1:=F3.out.2.1.cell 1 _ rfl
 have f2_1_1:=F3.out.2.1.fz 1
 have a2_1_2:=F3.out.2.1.cell 2 _ rfl
 have f2_1_2:=F3.out.2.1.fz 2
 have a2_1_3:=F3.out.2.1.cell 3 _ rfl
 have f2_1_3:=F3.out.2.1.fz 3
 have ne2_0_1:¬ w.heap.size=w2.heap.size:=by omega
 have ne2_1_0:¬ w2.heap.size=w.heap.size:=by omega
 go_wp2
 refine bodyPost_ret (v:=.tuple #[.agg #[.string s,vI p,.bool false],.nilIface]) (by simp [results,Tryz.results51,go_sem,World.cell?_setCell_same,World.cell?_setCell_other, *]) rfl ⟨rfl,?_⟩
 repeat (first | refine Below.setCell ?_ (by first | exact Nat.le_refl _ | (dsimp only;omega)) _ | refine Below.alloc ?_ (by first | exact Nat.le_refl _ | omega | (simp;omega)) _ | refine Below.drew ?_)
 exact F3.out.2.2
theorem aCA {b z:Int}{n:Int}(HS:∀ W,Cb 82 #[vU b,vI z] W (.tuple #[.agg #[.string ⟨#[]⟩,vI 0,.bool false,.string ⟨#[]⟩,vI 0,.bool false,.bool false],.iface 69 (vI n)])) (w:World) :
 Cb 50 #[vU b,vI z] w (.tuple #[.agg #[.string ⟨#[]⟩,vI 0,.bool false],.agg #[.string ⟨#[]⟩,vI 0,.bool false],.bool false,.iface 69 (vI n)]):=by
 have F0:Hid (Bk ((w.alloc (.cells #[.string ⟨#[]⟩,vI 0,.bool false] 24)).alloc (.cells #[.string ⟨#[]⟩,vI 0,.bool false] 24)) (w.heap.size) [.string ⟨#[]⟩,vI 0,.bool false]/\Bk ((w.alloc (.cells #[.string ⟨#[]⟩,vI 0,.bool false] 24)).alloc (.cells #[.string ⟨#[]⟩,vI 0,.bool false] 24)) (w.heap.size+1) [.string ⟨#[]⟩,vI 0,.bool false]/\Bl w ((w.alloc (.cells #[.string ⟨#[]⟩,vI 0,.bool false] 24)).alloc (.cells #[.string ⟨#[]⟩,vI 0,.bool false] 24))):=⟨(Bk.new3 w (.string ⟨#[]⟩) (vI 0) (.bool false) 24).step (bz _ _),((by have q:=Bk.new3 (w.alloc (.cells #[.string ⟨#[]⟩,vI 0,.bool false] 24)) (.string ⟨#[]⟩) (vI 0) (.bool false) 24;simpa using q):Bk ((w.alloc (.cells #[.string ⟨#[]⟩,vI 0,.bool false] 24)).alloc (.cells #[.string ⟨#[]⟩,vI 0,.bool false] 24)) (w.heap.size+1) [.string ⟨#[]⟩,vI 0,.bool false]),(((Below.refl w.heap.size w)).alloc (Nat.le_refl _) _).alloc ((((Below.refl w.heap.size w)).alloc (Nat.le_refl _) _).size) _⟩
 go_enter Tryz.func50,Tryz.ntmps50
 go_upto_region 1 with fail
 generalize ((w.alloc (.cells #[.string ⟨#[]⟩,vI 0,.bool false] 24)).alloc (.cells #[.string ⟨#[]⟩,vI 0,.bool false] 24))=w1 at *
 go_wp2_with fail
 all_goals first | (exfalso;omega) | skip
 refine (HS _).mono ?_
 rintro o2 w2 ⟨rfl,bb⟩
 have F1:Hid (Bk w2 (w.heap.size) [.string ⟨#[]⟩,vI 0,.bool false]/\Bk w2 (w.heap.size+1) [.string ⟨#[]⟩,vI 0,.bool false]/\Bl w w2):=⟨(F0.out.1).step bb,(F0.out.2.1).step bb,(F0.out.2.2).trans (bb.mono (F0.out.2.2).size)⟩
 clear F0
 clear bb
 have lt0_2:=(F1.out.1).lt
 have lt1_2:=(F1.out.2.1).lt
 have le2:=(F1.out.2.2).size
 have F2:Hid (Bk (w2.alloc (.cells #[.string ⟨#[]⟩,vI 0,.bool false,.string ⟨#[]⟩,vI 0,.bool false,.bool false] 124)) (w.heap.size) [.string ⟨#[]⟩,vI 0,.bool false]/\Bk (w2.alloc (.cells #[.string ⟨#[]⟩,vI 0,.bool false,.string ⟨#[]⟩,vI 0,.bool false,.bool false] 124)) (w.heap.size+1) [.string ⟨#[]⟩,vI 0,.bool false]/\Bk (w2.alloc (.cells #[.string ⟨#[]⟩,vI 0,.bool false,.string ⟨#[]⟩,vI 0,.bool false,.bool false] 124)) (w2.heap.size) [.string ⟨#[]⟩,vI 0,.bool false,.string ⟨#[]⟩,vI 0,.bool false,.bool false]/\Bl w (w2.alloc (.cells #[.string ⟨#[]⟩,vI 0,.bool false,.string ⟨#[]⟩,vI 0,.bool false,.bool false] 124))):=⟨(F1.out.1).step (bz _ _),(F1.out.2.1).step (bz _ _),Bk.new7 w2 (.string ⟨#[]⟩) (vI 0) (.bool false) (.string ⟨#[]⟩) (vI 0) (.bool false) (.bool false) 124,(F1.out.2.2).alloc ((F1.out.2.2).size) _⟩
 clear F1
 go_upto_region 2 with fail
 generalize (w2.alloc (.cells #[.string ⟨#[]⟩,vI 0,.bool false,.string ⟨#[]⟩,vI 0,.bool false,.bool false] 124))=w3 at *
 have l1_0:=F2.out.1.lt
 have a1_0_0:=F2.out.1.cell 0 _ rfl
 have f1_0_0:=F2.out.1.fz 0
 have a1_0_1:=F2.out.1.cell 1 _ rfl
 have f1_0_1:=F2.out.1.fz 1
 have a1_0_2:=F2.out.1.cell 2 _ rfl
 have f1_0_2:=F2.out.1.fz 2
 have l1_1:=F2.out.2.1.lt
 have a1_1_0:=F2.out.2.1.cell 0 _ rfl
 have f1_1_0:=F2.out.2.1.fz 0
 have a1_1_1:=F2.out.2.1.cell 1 _ rfl
 have f1_1_1:=F2.out.2.1.fz 1
 have a1_1_2:=F2.out.2.1.cell 2 _ rfl
 have f1_1_2:=F2.out.2.1.fz 2
 have l1_2:=F2.out.2.2.1.lt
 have a1_2_0:=F2.out.2.2.1.cell 0 _ rfl
 have f1_2_0:=F2.out.2.2.1.fz 0
 have a1_2_1:=F2.out.2.2.1.cell 1 _ rfl
 have f1_2_1:=F2.out.2.2.1.fz 1
 have a1_2_2:=F2.out.2.2.1.cell 2 _ rfl
 have f1_2_2:=F2.out.2.2.1.fz 2
 have a1_2_3:=F2.out.2.2.1.cell 3 _ rfl
 have f1_2_3:=F2.out.2.2.1.fz 3
 have a1_2_4:=F2.out.2.2.1.cell 4 _ rfl
 have f1_2_4:=F2.out.2.2.1.fz 4
 have a1_2_5:=F2.out.2.2.1.cell 5 _ rfl
 have f1_2_5:=F2.out.2.2.1.fz 5
 have a1_2_6:=F2.out.2.2.1.cell 6 _ rfl
 have f1_2_6:=F2.out.2.2.1.fz 6
 have ne1_0_1:¬ w.heap.size=w.heap.size+1:=by omega
 have ne1_0_2:¬ w.heap.size=w2.heap.size:=by omega
 have ne1_1_0:¬ w.heap.size+1=w.heap.size:=by omega
 have ne1_1_2:¬ w.heap.size+1=w2.heap.size:=by omega
 have ne1_2_0:¬ w2.heap.size=w.heap.size:=by omega
 have ne1_2_1:¬ w2.heap.size=w.heap.size+1:=by omega
 go_wp2
 refine bodyPost_ret (v:=.tuple #[.agg #[.string ⟨#[]⟩,vI 0,.bool false],.agg #[.string ⟨#[]⟩,vI 0,.bool false],.bool false,.iface 69 (vI n)]) (by simp [results,Tryz.results50,go_sem,World.cell?_setCell_same,World.cell?_setCell_other, *]) rfl ⟨rfl,?_⟩
 repeat (first | refine Below.setCell ?_ (by first | exact Nat.le_refl _ | (dsimp only;omega)) _ | refine Below.alloc ?_ (by first | exact Nat.le_refl _ | omega | (simp;omega)) _ | refine Below.drew ?_)
 exact F2.out.2.2.2
def inB (c:Bool) (l h:Int):Bool:=if c then (decide (0<=l) && decide (h<=0)) else (decide (0<l) && decide (h<0))
end Go.Proofs.YtblkokjkmbpejaaGreatDoor
