/-
  Holds: UEx1 UEx2 UEx3 UEx3c UEx4.
-/
import Derived.Laws.BitsAllLaws
import Derived.Test.YteeobndfnkeldaaGreatDoorChecked
import Derived.Lib.ItoaNum
import Derived.Laws.Externs
import Derived.WalkKit
import Derived.WalkSpells
import Derived.WalkLawsBesides
import Derived.Lib.Mul64
import Derived.Lib.TrailingZeros
import Derived.Deep.OwnRows
import Derived.Laws.CopyOwn
import Derived.BigQuiet
import Derived.Deep.RegionHeld3
import Derived.Deep.LoopGhost
import Derived.Deep.AppendLies
import Derived.Deep.DeepCutAuto
import Derived.Stop.Asserts
import Derived.RowKitTokens
import Derived.Lib.Strings
import Derived.Lib.BufferWrite
import Derived.Lib.ConvBytes
import Derived.Test.YteeobndfnkeldaaGreatDoorXn3
set_option maxRecDepth 100000
set_option maxHeartbeats 4000000
namespace Go.Proofs.YteeobndfnkeldaaGreatDoor
open Go.RowKit
def B:Nat:=18446744073709551616
theorem B_pos:0<B:=by decide
theorem Bp_pos (n:Nat):0<B ^ n:=Nat.pow_pos B_pos
def V (f:Nat → Nat):Nat → Nat
 | 0=>0
 | n+1=>V f n+f n * B ^ n
def Ws (f:Nat → Nat):Prop:=∀ i,f i<B
theorem V_zero (f:Nat → Nat):V f 0=0:=rfl
theorem V_succ (f:Nat → Nat) (n:Nat):V f (n+1)=V f n+f n * B ^ n:=rfl
theorem V_congr {f g:Nat → Nat}:∀ {n:Nat},(∀ i,i<n → f i=g i) → V f n=V g n
 | 0,_=>rfl
 | n+1,h=>by rw [V_succ,V_succ,V_congr (fun i hi=>h i (by omega)),h n (by omega)]
theorem V_lt {f : Nat → Nat} (hf : Ws f) : ∀ n, V f n < B ^ n
  | 0 => by rw [V_zero, Nat.pow_zero]; decide
  | n + 1 => by
    have a := V_lt hf n
    have b := hf n
    have c : (f n + 1) * B ^ n ≤ B * B ^ n := Nat.mul_le_mul_right _ b
    rw [V_succ, Nat.pow_succ]
    rw [Nat.add_mul, Nat.one_mul] at c
    rw [Nat.mul_comm (B ^ n) B]
    omega
theorem V_ge {f:Nat → Nat}{n:Nat}(h:f n ≠ 0):B ^ n≤V f (n+1):=by
 have a:1 * B ^ n≤f n * B ^ n:=Nat.mul_le_mul_right _ (by omega)
 rw [V_succ];omega
theorem split_gen {u v x p q:Nat}:u+v * p+x * (p * q)=u+(v+x * q) * p:=by grind
theorem V_split (f : Nat → Nat) (a : Nat) : ∀ b, V f (a + b) = V f a + V (fun i => f (a + i)) b * B ^ a
  | 0 => by rw [V_zero, Nat.zero_mul]; rfl
  | b + 1 => by
    have e := V_split f a b
    rw [← Nat.add_assoc, V_succ, e, V_succ, Nat.pow_add]
    exact split_gen
theorem V_zeros {f : Nat → Nat} {m : Nat} : ∀ {n : Nat}, m ≤ n → (∀ i, m ≤ i → i < n → f i = 0) → V f n = V f m
  | 0, h, _ => by
    have e : m = 0 := by omega
    rw [e]
  | n + 1, h, z => by
    by_cases e : m = n + 1
    · rw [e]
    · rw [V_succ, z n (by omega) (by omega), Nat.zero_mul, Nat.add_zero]
      exact V_zeros (by omega) (fun i a b => z i a (by omega))
theorem V_nought (n:Nat):V (fun _=>0) n=0:=V_zeros (f:=fun _=>0) (Nat.zero_le n) (fun _ _ _=>rfl)
def Top (f:Nat → Nat) (n:Nat):Prop:=n=0 ∨ f (n - 1) ≠ 0
theorem Top_ge {f:Nat → Nat}{n:Nat}(h:Top f n) (hn:0<n):B ^ (n - 1)≤V f n:=by
 rcases h with h | h
 · omega
 · have:=V_ge h
   rw [show n - 1+1=n by omega] at this
   exact this
theorem len_lt {f g:Nat → Nat}{m n:Nat}(hf:Ws f) (hg:Top g n) (h:m<n):V f m<V g n:=by
 have a:=V_lt hf m
 have b:=Top_ge hg (by omega)
 have c:B ^ m≤B ^ (n - 1):=Nat.pow_le_pow_right B_pos (by omega)
 omega
theorem len_le {f:Nat → Nat}{n k:Nat}(t:Top f n) (h:V f n<B ^ k):n≤k:=by
 by_cases c:n≤k
 · exact c
 · exfalso
   have a:=Top_ge t (by omega)
   have b:B ^ k≤B ^ (n - 1):=Nat.pow_le_pow_right B_pos (by omega)
   omega
def tl (f:Nat → Nat):Nat → Nat
 | 0=>0
 | n+1=>if f n=0 then tl f n else n+1
theorem tl_le (f : Nat → Nat) : ∀ n, tl f n ≤ n
  | 0 => Nat.le_refl _
  | n + 1 => by
    unfold tl
    split
    · have := tl_le f n; omega
    · exact Nat.le_refl _
theorem tl_top (f : Nat → Nat) : ∀ n, Top f (tl f n)
  | 0 => Or.inl rfl
  | n + 1 => by
    unfold tl
    split
    · exact tl_top f n
    · exact Or.inr (by simpa using ‹_›)
theorem tl_V (f : Nat → Nat) : ∀ n, V f (tl f n) = V f n
  | 0 => rfl
  | n + 1 => by
    unfold tl
    split
    · rename_i h; rw [tl_V f n, V_succ, h, Nat.zero_mul, Nat.add_zero]
    · rfl
theorem tl_zero {f:Nat → Nat}{n:Nat}(h:f n=0):tl f (n+1)=tl f n:=by
 show (if f n=0 then tl f n else n+1)=_
 rw [if_pos h]
theorem tl_stop {f:Nat → Nat}{n:Nat}(h:f n ≠ 0):tl f (n+1)=n+1:=by
 show (if f n=0 then tl f n else n+1)=_
 rw [if_neg h]
def ord (x y:Nat):Int:=if x<y then -1 else if y<x then 1 else 0
theorem ord_lt {x y:Nat}(h:x<y):ord x y = -1:=by unfold ord;rw [if_pos h]
theorem ord_gt {x y:Nat}(h:y<x):ord x y=1:=by unfold ord;rw [if_neg (by omega),if_pos h]
theorem ord_eq {x y:Nat}(h:x=y):ord x y=0:=by unfold ord;rw [if_neg (by omega),if_neg (by omega)]
theorem V_lt_at {f g : Nat → Nat} (hf : Ws f) {k : Nat} (hk : f k < g k) : ∀ {n : Nat}, k < n → (∀ j, k < j → j < n → f j = g j) → V f n < V g n
  | 0, h, _ => absurd h (by omega)
  | n + 1, h, e => by
    by_cases c : k = n
    · subst c
      have a := V_lt hf k
      have b : (f k + 1) * B ^ k ≤ g k * B ^ k := Nat.mul_le_mul_right _ hk
      rw [V_succ, V_succ]
      rw [Nat.add_mul, Nat.one_mul] at b
      omega
    · have i := V_lt_at hf hk (n := n) (by omega) (fun j a b => e j a (by omega))
      rw [V_succ, V_succ, e n (by omega) (by omega)]
      omega
def put (f:Nat → Nat) (k x:Nat):Nat → Nat:=fun i=>if i=k then x else f i
theorem put_at (f:Nat → Nat) (k x:Nat):put f k x k=x:=by unfold put;rw [if_pos rfl]
theorem put_ne {f:Nat → Nat}{k x i:Nat}(h:i ≠ k):put f k x i=f i:=by unfold put;rw [if_neg h]
theorem put_Ws {f:Nat → Nat}{k x:Nat}(hf:Ws f) (hx:x<B):Ws (put f k x):=by
 intro i;unfold put;split
 · exact hx
 · exact hf i
theorem V_put_low {f:Nat → Nat}{k x n:Nat}(h:n≤k):V (put f k x) n=V f n:=V_congr fun i hi=>put_ne (by omega)
theorem sum_gen {β v a b p x y c q r:Nat}(h:v+c * p=a+b) (e:β * q+r=x+y+c):v+r * p+q * (p * β)=a+x * p+(b+y * p):=by
 have:r * p+q * (p * β)=(β * q+r) * p:=by grind
 rw [e] at this
 grind
theorem sum_step {v a b p x y c:Nat}(h:v+c * p=a+b):v+(x+y+c) % B * p+(x+y+c) / B * (p * B)=a+x * p+(b+y * p) :=
 sum_gen h (Nat.div_add_mod (x+y+c) B)
theorem sub_step {β v a b p x y c l d:Nat}(h:v+b=a+c * p) (hl:l+y+c=x+d * β):v+l * p+(b+y * p)=a+x * p+d * (p * β):=by
 have:l * p+y * p+c * p=x * p+d * (p * β):=by
  have e:(l+y+c) * p=(x+d * β) * p:=by rw [hl]
  grind
 omega
namespace Big
def B:Nat:=4294967296
theorem B_pos:0<B:=by decide
def V (f:Nat → Nat):Nat → Nat
 | 0=>0
 | n+1=>V f n+f n * B ^ n
def Ws (f:Nat → Nat):Prop:=∀ i,f i<B
theorem V_zero (f:Nat → Nat):V f 0=0:=rfl
theorem V_succ (f:Nat → Nat) (n:Nat):V f (n+1)=V f n+f n * B ^ n:=rfl
theorem V_congr {f g:Nat → Nat}:∀ {n:Nat},(∀ i,i<n → f i=g i) → V f n=V g n
 | 0,_=>rfl
 | n+1,h=>by rw [V_succ,V_succ,V_congr (fun i hi=>h i (by omega)),h n (by omega)]
theorem V_lt {f : Nat → Nat} (hf : Ws f) : ∀ n, V f n < B ^ n
  | 0 => by rw [V_zero, Nat.pow_zero]; decide
  | n + 1 => by
    have a := V_lt hf n
    have b := hf n
    have c : (f n + 1) * B ^ n ≤ B * B ^ n := Nat.mul_le_mul_right _ b
    rw [V_succ, Nat.pow_succ]
    rw [Nat.add_mul, Nat.one_mul] at c
    rw [Nat.mul_comm (B ^ n) B]
    omega
theorem V_ge {f:Nat → Nat}{n:Nat}(h:f n ≠ 0):B ^ n≤V f (n+1):=by
 have a:1 * B ^ n≤f n * B ^ n:=Nat.mul_le_mul_right _ (by omega)
 rw [V_succ];omega
theorem split_gen {u v x p q:Nat}:u+v * p+x * (p * q)=u+(v+x * q) * p:=by grind
theorem V_split (f : Nat → Nat) (a : Nat) : ∀ b, V f (a + b) = V f a + V (fun i => f (a + i)) b * B ^ a
  | 0 => by rw [V_zero, Nat.zero_mul]; rfl
  | b + 1 => by
    have e := V_split f a b
    rw [← Nat.add_assoc, V_succ, e, V_succ, Nat.pow_add]
    exact split_gen
theorem V_zeros {f : Nat → Nat} {m : Nat} : ∀ {n : Nat}, m ≤ n → (∀ i, m ≤ i → i < n → f i = 0) → V f n = V f m
  | 0, h, _ => by
    have e : m = 0 := by omega
    rw [e]
  | n + 1, h, z => by
    by_cases e : m = n + 1
    · rw [e]
    · rw [V_succ, z n (by omega) (by omega), Nat.zero_mul, Nat.add_zero]
      exact V_zeros (by omega) (fun i a b => z i a (by omega))
theorem V_nought (n:Nat):V (fun _=>0) n=0:=V_zeros (f:=fun _=>0) (Nat.zero_le n) (fun _ _ _=>rfl)
def Top (f:Nat → Nat) (n:Nat):Prop:=n=0 ∨ f (n - 1) ≠ 0
theorem Top_ge {f:Nat → Nat}{n:Nat}(h:Top f n) (hn:0<n):B ^ (n - 1)≤V f n:=by
 rcases h with h | h
 · omega
 · have:=V_ge h
   rw [show n - 1+1=n by omega] at this
   exact this
theorem len_lt {f g:Nat → Nat}{m n:Nat}(hf:Ws f) (hg:Top g n) (h:m<n):V f m<V g n:=by
 have a:=V_lt hf m
 have b:=Top_ge hg (by omega)
 have c:B ^ m≤B ^ (n - 1):=Nat.pow_le_pow_right B_pos (by omega)
 omega
theorem len_le {f:Nat → Nat}{n k:Nat}(t:Top f n) (h:V f n<B ^ k):n≤k:=by
 by_cases c:n≤k
 · exact c
 · exfalso
   have a:=Top_ge t (by omega)
   have b:B ^ k≤B ^ (n - 1):=Nat.pow_le_pow_right B_pos (by omega)
   omega
def tl (f:Nat → Nat):Nat → Nat
 | 0=>0
 | n+1=>if f n=0 then tl f n else n+1
theorem tl_le (f : Nat → Nat) : ∀ n, tl f n ≤ n
  | 0 => Nat.le_refl _
  | n + 1 => by
    unfold tl
    split
    · have := tl_le f n; omega
    · exact Nat.le_refl _
theorem tl_top (f : Nat → Nat) : ∀ n, Top f (tl f n)
  | 0 => Or.inl rfl
  | n + 1 => by
    unfold tl
    split
    · exact tl_top f n
    · exact Or.inr (by simpa using ‹_›)
theorem tl_V (f : Nat → Nat) : ∀ n, V f (tl f n) = V f n
  | 0 => rfl
  | n + 1 => by
    unfold tl
    split
    · rename_i h; rw [tl_V f n, V_succ, h, Nat.zero_mul, Nat.add_zero]
    · rfl
theorem tl_zero {f:Nat → Nat}{n:Nat}(h:f n=0):tl f (n+1)=tl f n:=by
 show (if f n=0 then tl f n else n+1)=_
 rw [if_pos h]
theorem tl_stop {f:Nat → Nat}{n:Nat}(h:f n ≠ 0):tl f (n+1)=n+1:=by
 show (if f n=0 then tl f n else n+1)=_
 rw [if_neg h]
theorem V_lt_at {f g : Nat → Nat} (hf : Ws f) {k : Nat} (hk : f k < g k) : ∀ {n : Nat}, k < n → (∀ j, k < j → j < n → f j = g j) → V f n < V g n
  | 0, h, _ => absurd h (by omega)
  | n + 1, h, e => by
    by_cases c : k = n
    · subst c
      have a := V_lt hf k
      have b : (f k + 1) * B ^ k ≤ g k * B ^ k := Nat.mul_le_mul_right _ hk
      rw [V_succ, V_succ]
      rw [Nat.add_mul, Nat.one_mul] at b
      omega
    · have i := V_lt_at hf hk (n := n) (by omega) (fun j a b => e j a (by omega))
      rw [V_succ, V_succ, e n (by omega) (by omega)]
      omega
def put (f:Nat → Nat) (k x:Nat):Nat → Nat:=fun i=>if i=k then x else f i
theorem put_at (f:Nat → Nat) (k x:Nat):put f k x k=x:=by unfold put;rw [if_pos rfl]
theorem put_ne {f:Nat → Nat}{k x i:Nat}(h:i ≠ k):put f k x i=f i:=by unfold put;rw [if_neg h]
theorem put_Ws {f:Nat → Nat}{k x:Nat}(hf:Ws f) (hx:x<B):Ws (put f k x):=by
 intro i;unfold put;split
 · exact hx
 · exact hf i
theorem V_put_low {f:Nat → Nat}{k x n:Nat}(h:n≤k):V (put f k x) n=V f n:=V_congr fun i hi=>put_ne (by omega)
theorem sum_gen {β v a b p x y c q r:Nat}(h:v+c * p=a+b) (e:β * q+r=x+y+c):v+r * p+q * (p * β)=a+x * p+(b+y * p):=by
 have:r * p+q * (p * β)=(β * q+r) * p:=by grind
 rw [e] at this
 grind
theorem sum_step {v a b p x y c:Nat}(h:v+c * p=a+b):v+(x+y+c) % B * p+(x+y+c) / B * (p * B)=a+x * p+(b+y * p) :=
 sum_gen h (Nat.div_add_mod (x+y+c) B)
end Big
theorem BB:B=Big.B * Big.B:=by decide
theorem BB_pow (k:Nat):B ^ k=Big.B ^ (2 * k):=by rw [BB,Nat.pow_mul,Nat.pow_two]
def halves (f:Nat → Nat) (i:Nat):Nat:=if i % 2=0 then f (i / 2) % Big.B else f (i / 2) / Big.B
theorem halves_even (f:Nat → Nat) (k:Nat):halves f (2 * k)=f k % Big.B:=by
 unfold halves;rw [if_pos (by omega),show 2 * k / 2=k by omega]
theorem halves_odd (f:Nat → Nat) (k:Nat):halves f (2 * k+1)=f k / Big.B:=by
 unfold halves;rw [if_neg (by omega),show (2 * k+1) / 2=k by omega]
theorem half_lt {x:Nat}(h:x<B):x / Big.B<Big.B:=Nat.div_lt_of_lt_mul (by rw [← BB];exact h)
theorem halves_Ws {f:Nat → Nat}(h:Ws f):Big.Ws (halves f):=by
 intro i;unfold halves;split
 · exact Nat.mod_lt _ Big.B_pos
 · exact half_lt (h _)
theorem half_gen {v x d p q:Nat}(q1:d * (x / d)+x % d=x) (hp:q=p):v+x % d * q+x / d * (q * d)=v+x * p:=by
 rw [hp]
 have e:x % d * p+x / d * (p * d)=(d * (x / d)+x % d) * p:=by grind
 rw [q1] at e
 omega
theorem halves_V (f : Nat → Nat) : ∀ k, Big.V (halves f) (2 * k) = V f k
  | 0 => rfl
  | k + 1 => by
    rw [show 2 * (k + 1) = 2 * k + 1 + 1 by omega, Big.V_succ, Big.V_succ, halves_V f k, halves_even, halves_odd, V_succ, Nat.pow_succ]
    exact half_gen (Nat.div_add_mod _ _) (BB_pow k).symm
def cut (g:Nat → Nat) (n i:Nat):Nat:=if i<n then g i else 0
theorem cut_Ws {g:Nat → Nat}{n:Nat}(h:Big.Ws g):Big.Ws (cut g n):=by
 intro i;unfold cut;split
 · exact h i
 · exact Big.B_pos
def pairs (g:Nat → Nat) (n i:Nat):Nat:=cut g n (2 * i)+cut g n (2 * i+1) * Big.B
theorem pair_lt {x y:Nat}(hx:x<Big.B) (hy:y<Big.B):x+y * Big.B<B:=by
 have h:=Nat.mul_le_mul_right Big.B (Nat.succ_le_of_lt hy)
 rw [← BB,Nat.succ_mul] at h
 omega
theorem pairs_Ws {g:Nat → Nat}{n:Nat}(h:Big.Ws g):Ws (pairs g n):=fun _=>pair_lt (cut_Ws h _) (cut_Ws h _)
theorem pair_gen {v x y d p q:Nat}(hp:q=p):v+x * q+y * (q * d)=v+(x+y * d) * p:=by rw [hp];grind
theorem pairs_Vc (g : Nat → Nat) (n : Nat) : ∀ m, V (pairs g n) m = Big.V (cut g n) (2 * m)
  | 0 => rfl
  | m + 1 => by
    rw [show 2 * (m + 1) = 2 * m + 1 + 1 by omega, Big.V_succ, Big.V_succ, ← pairs_Vc g n m, V_succ, Nat.pow_succ]
    exact (pair_gen (BB_pow m).symm).symm
theorem pairs_V (g:Nat → Nat) (n:Nat):V (pairs g n) ((n+1) / 2)=Big.V g n:=by
 rw [pairs_Vc,Big.V_zeros (m:=n) (by omega) (fun i a _=>by unfold cut;rw [if_neg (by omega)])]
 exact Big.V_congr fun i hi=>by unfold cut;rw [if_pos hi]
theorem pairs_Top {g:Nat → Nat}{n:Nat}(h:Big.Top g n):Top (pairs g n) ((n+1) / 2):=by
 rcases h with h | h
 · left;omega
 · by_cases z:n=0
   · left;omega
   · right
     unfold pairs
     rcases (by omega:(n+1) / 2 - 1=(n - 1) / 2) with e
     rw [e]
     by_cases p:(n - 1) % 2=0
     · have e2:2 * ((n - 1) / 2)=n - 1:=by omega
       have c:cut g n (2 * ((n - 1) / 2))=g (n - 1):=by rw [e2];unfold cut;rw [if_pos (by omega)]
       rw [c];omega
     · have e2:2 * ((n - 1) / 2)+1=n - 1:=by omega
       have c:cut g n (2 * ((n - 1) / 2)+1)=g (n - 1):=by rw [e2];unfold cut;rw [if_pos (by omega)]
       rw [c]
       have:1 * 1≤g (n - 1) * Big.B:=Nat.mul_le_mul (by omega) Big.B_pos
       omega
theorem pow_cast (s:Nat):((2:Int) ^ s)=((2 ^ s:Nat):Int):=by push_cast;rfl
theorem shl_or (a c s:Nat) (h1:s≤64) (hc:c<2 ^ s):(a * 2 ^ s % 18446744073709551616) ||| c=(a * 2 ^ s+c) % 18446744073709551616:=by
 have p2:2 ^ (64 - s) * 2 ^ s=18446744073709551616:=by rw [← Nat.pow_add,show 64 - s+s=64 by omega]
 have e:a * 2 ^ s % 18446744073709551616=2 ^ s * (a % 2 ^ (64 - s)):=by
  rw [← p2,Nat.mul_mod_mul_right,Nat.mul_comm]
 have l:2 ^ s * (a % 2 ^ (64 - s))+c<18446744073709551616:=by
  have q:a % 2 ^ (64 - s)+1≤2 ^ (64 - s):=Nat.mod_lt _ (Nat.pow_pos (by omega))
  have r:=Nat.mul_le_mul_left (2 ^ s) q
  rw [Nat.mul_add,Nat.mul_comm (2 ^ s) (2 ^ (64 - s)),p2] at r
  omega
 rw [e,← Nat.two_pow_add_eq_or_of_lt hc,Nat.add_mod,e]
 have c2:c<18446744073709551616:=by omega
 rw [Nat.mod_eq_of_lt c2,Nat.mod_eq_of_lt l]
structure Sl (w:World) (ao:Option Addr) (n c:Nat) (b o:Nat) (f:Nat → Nat):Prop where
 le:n≤c
 cap:c≤maxLen
 addr:0<n → ao=some ⟨b,o,none⟩
 blk:0<n → b<w.heap.size
 cell:∀ i,i<n → w.cell? ⟨b,o+i,none⟩=some (vU (f i:Int))
 ws:Ws f
theorem Sl.below {w w':World}{ao:Option Addr}{n c b o:Nat}{f:Nat → Nat}(S:Sl w ao n c b o f) (hb:Bl w w'):Sl w' ao n c b o f :=
 ⟨S.le,S.cap,S.addr,fun h=>Nat.lt_of_lt_of_le (S.blk h) hb.size,fun i hi=>(hb.cell (p:=⟨b,o+i,none⟩) (S.blk (by omega))).trans (S.cell i hi),S.ws⟩
structure Row (w:World) (g N:Nat) (F:Nat → Nat):Prop where
 row:w.rowIs g 31 N (fun i=>vU (F i:Int))
 ws:Ws F
theorem Row.set {w:World}{g N:Nat}{F:Nat → Nat}(R:Row w g N F) (i:Nat) {r:Nat}(hr:r<B):Row (w.setCell ⟨g,i,none⟩ (vU (r:Int))) g N (put F i r):=by
 refine ⟨(R.row.set i (vU (r:Int))).congr fun j hj=>?_,put_Ws R.ws hr⟩
 unfold put
 by_cases c:j=i
 · rw [if_pos c,if_pos c]
 · rw [if_neg c,if_neg c]
theorem Row.drew {w:World}{g N:Nat}{F:Nat → Nat}(R:Row w g N F):Row w.drew g N F:=⟨R.row.drew,R.ws⟩
theorem Row.kept {w w':World}{g g' N:Nat}{F:Nat → Nat}(R:Row w g N F) (h:w.grownBy w' (some g')) (hne:g ≠ g'):Row w' g N F :=
 ⟨R.row.of_block (h.block g R.row.lt (fun e=>hne (Option.some.inj e))),R.ws⟩
theorem Row.below {w w':World}{g N:Nat}{F:Nat → Nat}(R:Row w g N F) (h:Bl w w'):Row w' g N F :=
 ⟨R.row.of_block (h.block g R.row.lt),R.ws⟩
theorem Sl.kept {w w':World}{ao:Option Addr}{n c b o g:Nat}{f:Nat → Nat}(S:Sl w ao n c b o f) (h:w.grownBy w' (some g)) (hne:0<n → b ≠ g):Sl w' ao n c b o f :=
 ⟨S.le,S.cap,S.addr,fun q=>Nat.lt_of_lt_of_le (S.blk q) h.size,fun i hi=>by
  rw [World.cell?_of_block (w:=w) (h.block b (S.blk (by omega)) (fun e=>hne (by omega) (Option.some.inj e)))];exact S.cell i hi,S.ws⟩
theorem grown_set {w wr:World}{g i:Nat}(h:w.grownBy wr (some g)) (v:Value):w.grownBy (wr.setCell ⟨g,i,none⟩ v) (some g) :=
 ⟨h.os,h.tape,h.output,by rw [World.size_setCell];exact h.size,fun k hk hne=>(Below.heap_setCell _ _ _ _ (fun e=>hne (by rw [e]))).trans (h.block k hk hne)⟩
theorem times_step {β v a b p x y z c l:Nat}(h:v+c * p=a+b * x) {d:Nat}(e:l+d * β=x * y+z+c):v+l * p+d * (p * β)=a+z * p+(b+y * p) * x:=by
 have:l * p+d * (p * β)=(x * y+z+c) * p:=by rw [← e];grind
 grind
theorem info_u64:(Tryz.prog.info? 31).map (fun i=>(i.zero,i.size,i.bytes))=some (some (vU 0),1,8):=by kernel_rfl
def NatV (w:World) (v:Value) (X:Nat):Prop:=∃ ao n c b o f,v=.slice ao n c∧Sl w ao n c b o f∧Top f n∧V f n=X∧n≤128
theorem NatV.below {w w':World}{v:Value}{X:Nat}(h:NatV w v X) (hb:Bl w w'):NatV w' v X:=by
 obtain ⟨ao,n,c,b,o,f,e,S,r⟩:=h
 exact ⟨ao,n,c,b,o,f,e,S.below hb,r⟩
theorem split_gen2 {u t v p q:Nat}:u+t * p+v * (p * q)=u+(t+v * q) * p:=by grind
theorem mult_gen {a b x p s t v q u:Nat}(h:t+v * q=s+b * x) (e:u+s * p=a * b):u+(t+v * q) * p=(a+x * p) * b:=by
 rw [h];grind
def dV (K:IntKind) (F:Nat → Nat) (k:Nat):List Value:=(List.range k).map fun i=>Value.int K (F i:Int)
theorem dV_succ (K:IntKind) (F:Nat → Nat) (k:Nat):dV K F (k+1)=dV K F k ++ [Value.int K (F k:Int)]:=by
 unfold dV;rw [List.range_succ,List.map_append];rfl
theorem dV_congr {K:IntKind}{F G:Nat → Nat}{k:Nat}(h:∀ i,i<k → F i=G i):dV K F k=dV K G k:=by
 unfold dV
 exact List.map_congr_left fun i hi=>by rw [h i (List.mem_range.1 hi)]
theorem dV_get {K:IntKind}{F:Nat → Nat}{k i:Nat}(h:i<k):(dV K F k)[i]?=some (.int K (F i:Int)):=by
 unfold dV;rw [List.getElem?_map,List.getElem?_range h];rfl
theorem own_cells {w:World}{base:Nat}{e:TypeId}{v:Value}{k:Nat}{K:IntKind}{F:Nat → Nat}(h:w.ownsRow base e 1 v k (dV K F k)) :
 ∃ ao c b,v=.slice ao k c∧k≤c∧c≤maxLen∧(0<k → ao=some ⟨b,0,none⟩∧b<w.heap.size∧base≤b)∧∀ i,i<k → w.cell? ⟨b,0+i,none⟩=some (.int K (F i:Int)):=by
 rcases h.2 with ⟨rfl,rfl⟩ | ⟨g,cap,cur,rfl,hbg,hheap,hle,hmx,hcs,htk⟩
 · exact ⟨none,0,0,rfl,Nat.le_refl _,Nat.zero_le _,fun h=>absurd h (by omega),fun i h=>absurd h (by omega)⟩
 · rw [Nat.mul_one] at hcs htk
   refine ⟨_,cap,g,rfl,hle,hmx,fun _=>⟨rfl,(Array.getElem?_eq_some_iff.1 hheap).1,hbg⟩,fun i hi=>?_⟩
   have q:(cur.toList.take k)[i]?=some (.int K (F i:Int)):=by rw [htk];exact dV_get hi
   rw [List.getElem?_take_of_lt hi] at q
   have q3:cur[i]?=some (.int K (F i:Int)):=by simpa using q
   rw [Nat.zero_add]
   simp [World.cell?,hheap,q3]
theorem own_sl {w:World}{base:Nat}{e:TypeId}{v:Value}{k:Nat}{F:Nat → Nat}(h:w.ownsRow base e 1 v k (dV .u64 F k)) (hF:Ws F) :
 ∃ ao c b,v=.slice ao k c∧Sl w ao k c b 0 F∧(0<k → base≤b):=by
 obtain ⟨ao,c,b,rfl,h1,h2,h3,h4⟩:=own_cells h
 exact ⟨ao,c,b,rfl,⟨h1,h2,fun q=>(h3 q).1,fun q=>(h3 q).2.1,h4,hF⟩,fun q=>(h3 q).2.2⟩
namespace Big
structure Sl (w:World) (ao:Option Addr) (n c:Nat) (b o:Nat) (f:Nat → Nat):Prop where
 le:n≤c
 cap:c≤maxLen
 addr:0<n → ao=some ⟨b,o,none⟩
 blk:0<n → b<w.heap.size
 cell:∀ i,i<n → w.cell? ⟨b,o+i,none⟩=some (.int .u32 (f i:Int))
 ws:Ws f
theorem Sl.below {w w':World}{ao:Option Addr}{n c b o:Nat}{f:Nat → Nat}(S:Sl w ao n c b o f) (hb:Bl w w'):Sl w' ao n c b o f :=
 ⟨S.le,S.cap,S.addr,fun h=>Nat.lt_of_lt_of_le (S.blk h) hb.size,fun i hi=>(hb.cell (p:=⟨b,o+i,none⟩) (S.blk (by omega))).trans (S.cell i hi),S.ws⟩
theorem Sl.shorter {w:World}{ao:Option Addr}{n c b o m:Nat}{f:Nat → Nat}(S:Sl w ao n c b o f) (h:m≤n):Sl w ao m c b o f :=
 ⟨Nat.le_trans h S.le,S.cap,fun q=>S.addr (by omega),fun q=>S.blk (by omega),fun i hi=>S.cell i (by omega),S.ws⟩
theorem own_sl {w:World}{base:Nat}{e:TypeId}{v:Value}{k:Nat}{F:Nat → Nat}(h:w.ownsRow base e 1 v k (dV .u32 F k)) (hF:Ws F) :
 ∃ ao c b,v=.slice ao k c∧Sl w ao k c b 0 F∧(0<k → base≤b):=by
 obtain ⟨ao,c,b,rfl,h1,h2,h3,h4⟩:=own_cells h
 exact ⟨ao,c,b,rfl,⟨h1,h2,fun q=>(h3 q).1,fun q=>(h3 q).2.1,h4,hF⟩,fun q=>(h3 q).2.2⟩
def NatV (w:World) (v:Value) (X:Nat):Prop:=∃ ao n c b o f,v=.slice ao n c∧Sl w ao n c b o f∧Top f n∧V f n=X
theorem NatV.below {w w':World}{v:Value}{X:Nat}(h:NatV w v X) (hb:Bl w w'):NatV w' v X:=by
 obtain ⟨ao,n,c,b,o,f,e,S,r⟩:=h
 exact ⟨ao,n,c,b,o,f,e,S.below hb,r⟩
theorem natv_nil (w:World):NatV w (.slice none 0 0) 0 :=
 ⟨none,0,0,0,0,fun _=>0,rfl,⟨Nat.le_refl _,Nat.zero_le _,fun h=>absurd h (by omega),fun h=>absurd h (by omega),fun i h=>absurd h (by omega),fun _=>B_pos⟩,Or.inl rfl,rfl⟩
theorem Sl.trimmed {w:World}{ao:Option Addr}{n c b o:Nat}{f:Nat → Nat}(S:Sl w ao n c b o f):NatV w (.slice ao (tl f n) c) (V f n) :=
 ⟨_,_,_,_,_,f,rfl,S.shorter (tl_le f n),tl_top f n,tl_V f n⟩
def NewV (w:World) (base:Nat) (v:Value) (X:Nat):Prop:=∃ ao n c b o f,v=.slice ao n c∧Sl w ao n c b o f∧Top f n∧V f n=X∧(0<n → base≤b)
theorem NewV.nat {w:World}{base:Nat}{v:Value}{X:Nat}(h:NewV w base v X):NatV w v X:=by
 obtain ⟨ao,n,c,b,o,f,e,S,t,r,_⟩:=h
 exact ⟨ao,n,c,b,o,f,e,S,t,r⟩
theorem newv_nil (w:World) (base:Nat):NewV w base (.slice none 0 0) 0 :=
 ⟨none,0,0,0,0,fun _=>0,rfl,⟨Nat.le_refl _,Nat.zero_le _,fun h=>absurd h (by omega),fun h=>absurd h (by omega),fun i h=>absurd h (by omega),fun _=>B_pos⟩,Or.inl rfl,rfl,fun h=>absurd h (by omega)⟩
theorem Sl.trimmedN {w:World}{ao:Option Addr}{n c b o base:Nat}{f:Nat → Nat}(S:Sl w ao n c b o f) (h:0<n → base≤b):NewV w base (.slice ao (tl f n) c) (V f n) :=
 ⟨_,_,_,_,_,f,rfl,S.shorter (tl_le f n),tl_top f n,tl_V f n,fun q=>h (by have:=tl_le f n;omega)⟩
theorem und_big:Tryz.prog.underlying 90=some (.slice 146):=by kernel_rfl
theorem info_u32:(Tryz.prog.info? 146).map (fun i=>(i.zero,i.size,i.bytes))=some (some (.int .u32 0),1,4):=by kernel_rfl
theorem trim_any {w : World} {ao : Option Addr} {n c b o : Nat} {f : Nat → Nat} (S : Sl w ao n c b o f) :
    Calls Tryz.prog 83 #[.slice ao n c] w fun e w' => e = .returned (.slice ao (tl f n) c) ∧ w' = w := by
  have hn : n ≤ maxLen := Nat.le_trans S.le S.cap
  have hnc := S.le
  have hcm := S.cap
  unfold maxLen at hn hcm
  have HS : Hid (Sl w ao n c b o f) := S
  clear S
  go_enter Tryz.func83, Tryz.ntmps83
  go_wp2
  go_loop [3] (fun i => ∃ k : Nat, i = .int .i64 k ∧ k ≤ n ∧ tl f n = tl f k) (fun i => (intOf i).toNat)
  case atStart => exact ⟨n, rfl, Nat.le_refl _, rfl⟩
  case round =>
    obtain ⟨k, rfl, hk, htl⟩ := hrel
    have HT : Hid (tl f n = tl f k) := htl
    clear htl
    by_cases c1 : 0 < k
    · obtain rfl := HS.out.addr (by omega)
      have hc := HS.out.cell (k - 1) (by omega)
      by_cases c3 : f (k - 1) = 0
      · rw [c3] at hc
        have HT2 : Hid (tl f n = tl f (k - 1)) := by
          have a := tl_zero (f := f) (n := k - 1) c3
          rw [show k - 1 + 1 = k by omega] at a
          exact HT.out.trans a
        clear c3
        go_wp2
        go_round
        case rel => exact ⟨k - 1, by go_num, by omega, HT2.out⟩
        case measure => simp [intOf]; omega
      · have c3' : (((f (k - 1) : Nat) : Int) == 0) = false := beq_eq_false_iff_ne.mpr (by omega)
        have HT2 : Hid (tl f n = k) := by
          have a := tl_stop (f := f) (n := k - 1) c3
          rw [show k - 1 + 1 = k by omega] at a
          exact HT.out.trans a
        clear c3
        go_wp2
        go_ret
        exact ⟨by rw [HT2.out]; rfl, rfl⟩
    · obtain rfl : k = 0 := by omega
      have HT2 : Hid (tl f n = 0) := HT.out
      clear HT c1
      cases ao with
      | none =>
        go_wp2
        go_ret
        exact ⟨by rw [HT2.out]; rfl, rfl⟩
      | some a =>
        go_wp2
        go_ret
        exact ⟨by rw [HT2.out]; rfl, rfl⟩
end Big
theorem B_pow (q:Nat):B ^ q=2 ^ (64 * q):=by
 rw [Nat.pow_mul];rfl
theorem B_part {p:Nat}(hp:p≤64):2 ^ (64 - p) * 2 ^ p=B:=by rw [← Nat.pow_add,show 64 - p+p=64 by omega];rfl
theorem up_room {x z p:Nat}(hp:p≤64) (hz:z<2 ^ p):x * 2 ^ p % B+z<B:=by
 have e:x * 2 ^ p % B=2 ^ p * (x % 2 ^ (64 - p)):=by rw [← B_part hp,Nat.mul_mod_mul_right,Nat.mul_comm]
 have q:x % 2 ^ (64 - p)+1≤2 ^ (64 - p):=Nat.mod_lt _ (Nat.pow_pos (by omega))
 have r:=Nat.mul_le_mul_left (2 ^ p) q
 rw [Nat.mul_add,Nat.mul_comm (2 ^ p) (2 ^ (64 - p)),B_part hp] at r
 omega
theorem up_lo {x z p:Nat}(hp:p≤64) (hz:z<2 ^ p):bits .or .u64 (z:Int) (IntKind.u64.wrap ((x:Int) * 2 ^ p))=((x * 2 ^ p % B+z:Nat):Int):=by
 have hzB:z<18446744073709551616:=Nat.lt_of_lt_of_le hz (by have:(2:Nat) ^ p≤2 ^ 64:=Nat.pow_le_pow_right (by omega) hp;exact this)
 have e:IntKind.u64.wrap ((x:Int) * 2 ^ p)=((x * 2 ^ p % 18446744073709551616:Nat):Int):=by
  rw [IntKind.wrap_u64,pow_cast,← Int.natCast_mul];rfl
 have o:=shl_or x z p (by omega) hz
 have r:=up_room (x:=x) hp hz
 rw [e,bits_or_u64_nat z _ hzB (Nat.mod_lt _ (by omega)),Nat.or_comm,o]
 unfold B at *
 congr 1
 generalize x * 2 ^ p=y at *
 omega
theorem Row.alloc {w:World}{g N:Nat}{F:Nat → Nat}(R:Row w g N F) (o:Obj):Row (w.alloc o) g N F:=⟨R.row.alloc o,R.ws⟩
theorem natv_nil (w:World):NatV w (.slice none 0 0) 0 :=
 ⟨none,0,0,0,0,fun _=>0,rfl,⟨Nat.le_refl _,Nat.zero_le _,fun h=>absurd h (by omega),fun h=>absurd h (by omega),fun i h=>absurd h (by omega),fun _=>B_pos⟩,Or.inl rfl,rfl,by omega⟩
theorem lo32 (x:Nat):IntKind.u32.wrap (x:Int)=((x % Big.B:Nat):Int):=by
 rw [IntKind.wrap_u32];unfold Big.B;omega
theorem hi32 {x:Nat}(h:x<B):IntKind.u32.wrap ((x:Int) / 4294967296)=((x / Big.B:Nat):Int):=by
 rw [IntKind.wrap_u32];unfold Big.B;unfold B at h;omega
theorem rof_any {w : World} {ao : Option Addr} {n c b o : Nat} {f : Nat → Nat} (S : Sl w ao n c b o f) (hn : n ≤ 1000) :
    Calls Tryz.prog 42 #[.slice ao n c] w fun e w' => ∃ v, e = .returned v ∧ Big.NatV w' v (V f n) ∧ Below w.heap.size w w' := by
  obtain ⟨i0, hi, hz0, hz1, hz2⟩ := info_parts Big.info_u32
  have HS : Hid (Sl w ao n c b o f) := S
  clear S
  go_enter Tryz.func42, Tryz.ntmps42
  go_wp2
  go_loopw [3, 4] (fun v i wr => ∃ k : Nat, i = .int .i64 (k : Int) ∧ k ≤ n ∧ wr.ownsRow w.heap.size 146 1 v (2 * k) (dV .u32 (halves f) (2 * k)) ∧ Below w.heap.size w wr) (fun _ i _ => n - (intOf i).toNat)
  case atStart => exact ⟨0, rfl, Nat.zero_le _, World.ownsRow_nil _ _ _ _, Below.refl _ _⟩
  case round =>
    obtain ⟨k, rfl, hk, hown, hbl⟩ := hrel
    have hsz := hbl.size
    by_cases c1 : k < n
    · obtain rfl := HS.out.addr (by omega)
      have hc := (HS.out.below hbl).cell k c1
      have hbk := HS.out.blk (by omega)
      have ne : ∀ q, u3.ownBlock = some q → b ≠ q := fun q hq => Nat.ne_of_lt (Nat.lt_of_lt_of_le hbk (hown.lt q hq).1)
      have e1 := lo32 (f k)
      have e2 := hi32 (HS.out.ws k)
      have ik0 : (0 : Int) ≤ (k : Int) := by omega
      have ik1 : (k : Int) < (n : Int) := by omega
      have HQ : Hid (f k % Big.B = halves f (2 * k) ∧ f k / Big.B = halves f (2 * k + 1)) := ⟨(halves_even f k).symm, (halves_odd f k).symm⟩
      generalize f k % Big.B = lo at *
      generalize f k / Big.B = hi' at *
      have HO : Hid (wr.ownsRow w.heap.size 146 1 u3 (2 * k) (dV .u32 (halves f) (2 * k)) ∧ Below w.heap.size w wr) := ⟨hown, hbl⟩
      clear hown hbl
      go_wp2
      go_region_held3 (fun w' => w'.cell? ⟨b, o + k, none⟩ = some (.int .u64 (f k : Int)))
        (first
          | go_keep
          | (rw [hgrow.cell_far _ (by simp; omega) (fun q => ne _ q.symm rfl)]; assumption))
        ((refine step_append_lies _ (by rfl) _ _ _ (by rfl) w.heap.size 146 i0 (.int .u32 0) 1 4 Big.und_big hi hz0 hz1 hz2 rfl (by omega) u3 (2 * k) (dV .u32 (halves f) (2 * k)) (by rfl) ((HO.out.1.alloc _).drew)
            ⟨wr.heap.size, 0, none⟩ 2 2 [.int .u32 (lo : Int), .int .u32 (hi' : Int)] (by rfl) (by rfl) (World.news_of_block (cs := #[.int .u32 (lo : Int), .int .u32 (hi' : Int)]) (t := 146) (fr := (0, 0)) (heap_alloc_new wr _)) (by simp [Value.oneCell'])
            (by omega) (by unfold maxLen; omega) (by omega) (by simp; omega) (wr.heap.size + 1) (by simp) ?_; intro gg cap w1 hown1 hgrow hat hlt))
      have hb3 : Below w.heap.size w w1 := ((HO.out.2.alloc hsz _).drew).grown hgrow (by simp; omega) (fun q hq => (HO.out.1.lt q hq).1)
      have HO3 : Hid (w1.ownsRow w.heap.size 146 1 (.slice (some ⟨gg, 0, none⟩) (2 * k + 2) cap) (2 * k + 2) (dV .u32 (halves f) (2 * (k + 1))) ∧ Below w.heap.size w w1) := by
        refine ⟨?_, hb3⟩
        have q := hown1
        rw [HQ.out.1, HQ.out.2] at q
        rw [show 2 * (k + 1) = 2 * k + 1 + 1 by omega, dV_succ, dV_succ, List.append_assoc]
        exact q
      clear hown1 hgrow hat hlt hb3
      go_wp2
      go_roundw
      case rel => exact ⟨k + 1, by go_num, by omega, HO3.out.1, HO3.out.2⟩
      case measure => simp [intOf]; omega
    · obtain rfl : k = n := by omega
      obtain ⟨ao', c', b', rfl, S', _⟩ := Big.own_sl hown (halves_Ws HS.out.ws)
      have T := Big.trim_any S'
      go_wp2_with fail
      refine T.mono ?_
      rintro e wa ⟨rfl, rfl⟩
      go_wp2
      go_ret
      refine ⟨_, rfl, ?_, hbl⟩
      have q := S'.trimmed
      rw [halves_V] at q
      exact q
theorem cut_in {g:Nat → Nat}{n i:Nat}(h:i<n):cut g n i=g i:=by unfold cut;rw [if_pos h]
theorem cut_out {g:Nat → Nat}{n i:Nat}(h:¬ i<n):cut g n i=0:=by unfold cut;rw [if_neg h]
theorem cut_V {g:Nat → Nat}{n k:Nat}(h:n≤k):Big.V (cut g n) k=Big.V g n:=by
 rw [Big.V_zeros (f:=cut g n) h (fun i a _=>cut_out (by omega))]
 exact Big.V_congr fun i hi=>cut_in hi
theorem dV_put (K:IntKind) (F:Nat → Nat) (k r:Nat):dV K (Big.put F k r) (k+1)=dV K F k ++ [.int K (r:Int)]:=by
 rw [dV_succ,Big.put_at,dV_congr (G:=F) (fun i hi=>Big.put_ne (by omega))]
theorem V_putB (F:Nat → Nat) (k r:Nat):Big.V (Big.put F k r) (k+1)=Big.V F k+r * Big.B ^ k:=by
 rw [Big.V_succ,Big.put_at,Big.V_put_low (Nat.le_refl _)]
theorem plus_big {w:World}{ao:Option Addr}{n c b o:Nat}{f:Nat → Nat}(S:Big.Sl w ao n c b o f) {bo:Option Addr}{m cb bb ob:Nat}{g:Nat → Nat}(S':Big.Sl w bo m cb bb ob g) (hn:n≤10000) (hm:m≤10000) :
 Calls Tryz.prog 153 #[.slice ao n c,.slice bo m cb] w fun e w'=>∃ v,e=.returned v∧Big.NatV w' v (Big.V f n+Big.V g m)∧Bl w w':=by
 obtain ⟨i0,hi,hz0,hz1,hz2⟩:=info_parts Big.info_u32
 have HS:Hid (Big.Sl w ao n c b o f):=S
 have HS':Hid (Big.Sl w bo m cb bb ob g):=S'
 clear S S'
 go_enter Tryz.func153,Tryz.ntmps153
 go_wp2
 go_loopw [5,6,7] (fun v cy i wr=>∃ (k x:Nat) (F:Nat → Nat),cy=vU (x:Int)∧i=vI (k:Int)∧k≤max n m∧x≤1∧Big.Ws F∧wr.ownsRow w.heap.size 146 1 v k (dV .u32 F k)∧Bl w wr∧Big.V F k+x * Big.B ^ k=Big.V (cut f n) k+Big.V (cut g m) k) (fun _ _ i _=>max n m - (intOf i).toNat)
 case atStart=>exact ⟨0,0,fun _=>0,rfl,rfl,Nat.zero_le _,by omega,fun _=>Big.B_pos,World.ownsRow_nil _ _ _ _,Below.refl _ _,rfl⟩
 case round =>
  obtain ⟨k,x,F,rfl,rfl,hk,hx,hF,hown,hbl,hv⟩:=hrel
  have hsz:=hbl.size
  have st:=Big.sum_step (x:=cut f n k) (y:=cut g m k) hv
  have HV:Hid (Big.V F k+x * Big.B ^ k=Big.V (cut f n) k+Big.V (cut g m) k):=hv
  have bf:=HS.out.ws k
  have bg:=HS'.out.ws k
  unfold Big.B at bf bg
  clear hv
  by_cases c1:k<n <;> by_cases c2:k<m
  · skip
    rw [cut_in c1,cut_in c2] at st
    obtain rfl:=HS.out.addr (by omega)
    have hc:=(HS.out.below hbl).cell k c1
    obtain rfl:=HS'.out.addr (by omega)
    have hc':=(HS'.out.below hbl).cell k c2
    have e1:IntKind.u32.wrap ((x:Int)+(f k:Int)+(g k:Int))=(((f k+g k+x) % Big.B:Nat):Int):=by rw [IntKind.wrap_u32];unfold Big.B;omega
    have e2:((x:Int)+(f k:Int)+(g k:Int)) / 4294967296=(((f k+g k+x) / Big.B:Nat):Int):=by unfold Big.B;omega
    have hr:(f k+g k+x) % Big.B<Big.B:=Nat.mod_lt _ Big.B_pos
    have hq:(f k+g k+x) / Big.B≤1:=by unfold Big.B;omega
    have HST:=(show Hid _ from st)
    clear st
    generalize (f k+g k+x) % Big.B=r at *
    generalize (f k+g k+x) / Big.B=q at *
    go_wp2_with (first
     | (at_builtin;refine wpList_append_own _ rfl _ _ 90 rfl w.heap.size 146 i0 (.int .u32 0) 1 4 Big.und_big hi hz0 hz1 hz2 rfl (by decide) _ _ _ rfl (hown.alloc _) ⟨wr.heap.size,0,none⟩ 1 1 [.int .u32 (r:Int)] rfl rfl (World.news_of_block (cs:=#[.int .u32 (r:Int)]) (t:=146) (fr:=(0,0)) (heap_alloc_new wr _)) (by simp [Value.oneCell']) (by unfold maxLen;omega) (by omega) (by rw [World.size_alloc];omega) ?_)
     | go_in)
    intro v' w3 hown' hgrow hnil
    have hb3:Bl w w3:=(hbl.alloc (by omega) _).grown hgrow (by rw [World.size_alloc];omega) (fun q hq=>(hown.lt q hq).1)
    have HO3:Hid (w3.ownsRow w.heap.size 146 1 v' (k+1) (dV .u32 (Big.put F k r) (k+1))∧Bl w w3):=⟨by rw [dV_put];exact hown',hb3⟩
    clear hown' hb3 hgrow hnil hown hbl
    go_wp2
    go_roundw
    case rel =>
     refine ⟨k+1,q,Big.put F k r,rfl,by go_num,by omega,hq,Big.put_Ws hF hr,HO3.out.1,HO3.out.2,?_⟩
     rw [V_putB,Big.V_succ,Big.V_succ,Nat.pow_succ,cut_in c1,cut_in c2]
     exact HST.out
    case measure=>simp [intOf];omega
  · skip
    rw [cut_in c1,cut_out c2] at st
    obtain rfl:=HS.out.addr (by omega)
    have hc:=(HS.out.below hbl).cell k c1
    have e1:IntKind.u32.wrap ((x:Int)+(f k:Int))=(((f k+0+x) % Big.B:Nat):Int):=by rw [IntKind.wrap_u32];unfold Big.B;omega
    have e2:((x:Int)+(f k:Int)) / 4294967296=(((f k+0+x) / Big.B:Nat):Int):=by unfold Big.B;omega
    have hr:(f k+0+x) % Big.B<Big.B:=Nat.mod_lt _ Big.B_pos
    have hq:(f k+0+x) / Big.B≤1:=by unfold Big.B;omega
    have HST:=(show Hid _ from st)
    clear st
    generalize (f k+0+x) % Big.B=r at *
    generalize (f k+0+x) / Big.B=q at *
    go_wp2_with (first
     | (at_builtin;refine wpList_append_own _ rfl _ _ 90 rfl w.heap.size 146 i0 (.int .u32 0) 1 4 Big.und_big hi hz0 hz1 hz2 rfl (by decide) _ _ _ rfl (hown.alloc _) ⟨wr.heap.size,0,none⟩ 1 1 [.int .u32 (r:Int)] rfl rfl (World.news_of_block (cs:=#[.int .u32 (r:Int)]) (t:=146) (fr:=(0,0)) (heap_alloc_new wr _)) (by simp [Value.oneCell']) (by unfold maxLen;omega) (by omega) (by rw [World.size_alloc];omega) ?_)
     | go_in)
    intro v' w3 hown' hgrow hnil
    have hb3:Bl w w3:=(hbl.alloc (by omega) _).grown hgrow (by rw [World.size_alloc];omega) (fun q hq=>(hown.lt q hq).1)
    have HO3:Hid (w3.ownsRow w.heap.size 146 1 v' (k+1) (dV .u32 (Big.put F k r) (k+1))∧Bl w w3):=⟨by rw [dV_put];exact hown',hb3⟩
    clear hown' hb3 hgrow hnil hown hbl
    go_wp2
    go_roundw
    case rel =>
     refine ⟨k+1,q,Big.put F k r,rfl,by go_num,by omega,hq,Big.put_Ws hF hr,HO3.out.1,HO3.out.2,?_⟩
     rw [V_putB,Big.V_succ,Big.V_succ,Nat.pow_succ,cut_in c1,cut_out c2]
     exact HST.out
    case measure=>simp [intOf];omega
  · skip
    rw [cut_out c1,cut_in c2] at st
    obtain rfl:=HS'.out.addr (by omega)
    have hc':=(HS'.out.below hbl).cell k c2
    have e1:IntKind.u32.wrap ((x:Int)+(g k:Int))=(((0+g k+x) % Big.B:Nat):Int):=by rw [IntKind.wrap_u32];unfold Big.B;omega
    have e2:((x:Int)+(g k:Int)) / 4294967296=(((0+g k+x) / Big.B:Nat):Int):=by unfold Big.B;omega
    have hr:(0+g k+x) % Big.B<Big.B:=Nat.mod_lt _ Big.B_pos
    have hq:(0+g k+x) / Big.B≤1:=by unfold Big.B;omega
    have HST:=(show Hid _ from st)
    clear st
    generalize (0+g k+x) % Big.B=r at *
    generalize (0+g k+x) / Big.B=q at *
    go_wp2_with (first
     | (at_builtin;refine wpList_append_own _ rfl _ _ 90 rfl w.heap.size 146 i0 (.int .u32 0) 1 4 Big.und_big hi hz0 hz1 hz2 rfl (by decide) _ _ _ rfl (hown.alloc _) ⟨wr.heap.size,0,none⟩ 1 1 [.int .u32 (r:Int)] rfl rfl (World.news_of_block (cs:=#[.int .u32 (r:Int)]) (t:=146) (fr:=(0,0)) (heap_alloc_new wr _)) (by simp [Value.oneCell']) (by unfold maxLen;omega) (by omega) (by rw [World.size_alloc];omega) ?_)
     | go_in)
    intro v' w3 hown' hgrow hnil
    have hb3:Bl w w3:=(hbl.alloc (by omega) _).grown hgrow (by rw [World.size_alloc];omega) (fun q hq=>(hown.lt q hq).1)
    have HO3:Hid (w3.ownsRow w.heap.size 146 1 v' (k+1) (dV .u32 (Big.put F k r) (k+1))∧Bl w w3):=⟨by rw [dV_put];exact hown',hb3⟩
    clear hown' hb3 hgrow hnil hown hbl
    go_wp2
    go_roundw
    case rel =>
     refine ⟨k+1,q,Big.put F k r,rfl,by go_num,by omega,hq,Big.put_Ws hF hr,HO3.out.1,HO3.out.2,?_⟩
     rw [V_putB,Big.V_succ,Big.V_succ,Nat.pow_succ,cut_out c1,cut_in c2]
     exact HST.out
    case measure=>simp [intOf];omega
  · skip
    have e1:IntKind.u32.wrap (x:Int)=(x:Int):=by rw [IntKind.wrap_u32];omega
    have HE:Hid (Big.V (Big.put F k x) (k+1)=Big.V f n+Big.V g m):=by
     show _=_
     rw [V_putB,HV.out,cut_V (by omega),cut_V (by omega)]
    have hw:Big.Ws (Big.put F k x):=Big.put_Ws hF (by unfold Big.B;omega)
    clear st
    go_wp2_with (first
     | (at_builtin;refine wpList_append_own _ rfl _ _ 90 rfl w.heap.size 146 i0 (.int .u32 0) 1 4 Big.und_big hi hz0 hz1 hz2 rfl (by decide) _ _ _ rfl (hown.alloc _) ⟨wr.heap.size,0,none⟩ 1 1 [.int .u32 (x:Int)] rfl rfl (World.news_of_block (cs:=#[.int .u32 (x:Int)]) (t:=146) (fr:=(0,0)) (heap_alloc_new wr _)) (by simp [Value.oneCell']) (by unfold maxLen;omega) (by omega) (by rw [World.size_alloc];omega) ?_)
     | go_in)
    intro v' w3 hown' hgrow hnil
    have hb3:Bl w w3:=(hbl.alloc (by omega) _).grown hgrow (by rw [World.size_alloc];omega) (fun q hq=>(hown.lt q hq).1)
    rw [← dV_put] at hown'
    obtain ⟨ao',c',b',rfl,S3,_⟩:=Big.own_sl hown' hw
    have T:=Big.trim_any S3
    have NV:=S3.trimmed
    rw [HE.out] at NV
    clear hown' hgrow hnil hown hbl
    go_wp2_with fail
    refine T.mono ?_
    rintro e wa ⟨rfl,rfl⟩
    go_wp2
    go_ret
    exact ⟨_,rfl,NV,hb3⟩
def Fits (L X:Nat):Prop:=∃ k,k≤L∧X<Big.B ^ k
theorem Fits.up {L M X:Nat}(h:Fits L X) (hl:L≤M):Fits M X:=by
 obtain ⟨k,a,b⟩:=h
 exact ⟨k,Nat.le_trans a hl,b⟩
theorem Fits.le {L X Y:Nat}(h:Fits L X) (hl:Y≤X):Fits L Y:=by
 obtain ⟨k,a,b⟩:=h
 exact ⟨k,a,Nat.lt_of_le_of_lt hl b⟩
theorem Fits.lt {L X:Nat}(h:Fits L X):X<Big.B ^ L:=by
 obtain ⟨k,a,b⟩:=h
 exact Nat.lt_of_lt_of_le b (Nat.pow_le_pow_right Big.B_pos a)
theorem Fits.mul {L M X Y:Nat}(h:Fits L X) (k:Fits M Y):Fits (L+M) (X * Y):=by
 refine ⟨L+M,Nat.le_refl _,?_⟩
 rw [Nat.pow_add]
 exact Nat.mul_lt_mul'' h.lt k.lt
theorem Fits.word {n X:Nat}(h:X<B ^ n):Fits (2 * n) X:=⟨2 * n,Nat.le_refl _,by rw [← BB_pow];exact h⟩
theorem big_len {f:Nat → Nat}{n L:Nat}(t:Big.Top f n) (h:Fits L (Big.V f n)):n≤L:=Big.len_le t h.lt
theorem plus_any {w:World}{va vb:Value}{X Y:Nat}(ha:Big.NatV w va X) (hb:Big.NatV w vb Y) (hX:Fits 1000 X) (hY:Fits 1000 Y) :
 Calls Tryz.prog 153 #[va,vb] w fun e w'=>∃ v,e=.returned v∧Big.NatV w' v (X+Y)∧Bl w w':=by
 obtain ⟨ao,n,c,b,o,f,rfl,S,t,rfl⟩:=ha
 obtain ⟨bo,m,cb,bb,ob,g,rfl,S',t',rfl⟩:=hb
 have:=big_len t hX
 have:=big_len t' hY
 exact plus_big S S' (by omega) (by omega)
theorem bcmp_any {w:World}{ao:Option Addr}{n c b o:Nat}{f:Nat → Nat}(S:Big.Sl w ao n c b o f) {ao':Option Addr}{n' c' b' o':Nat}{f':Nat → Nat}(S':Big.Sl w ao' n' c' b' o' f') (t:Big.Top f n) (t':Big.Top f' n') :
 Cb 81 #[.slice ao n c,.slice ao' n' c'] w (vI (ord (Big.V f n) (Big.V f' n'))):=by
 have hn:n≤maxLen:=Nat.le_trans S.le S.cap
 have hn':n'≤maxLen:=Nat.le_trans S'.le S'.cap
 unfold maxLen at hn hn'
 rcases Nat.lt_trichotomy n n' with d | d | d
 · have e:=ord_lt (Big.len_lt S.ws t' d)
   rw [e]
   have d1:((n:Int) == (n':Int))=false:=beq_eq_false_iff_ne.mpr (by omega)
   clear e
   go_enter Tryz.func81,Tryz.ntmps81
   go_wp2
   go_ret
   exact ⟨rfl,Below.refl _ _⟩
 · subst d
   have HS:Hid (Big.Sl w ao n c b o f):=S
   have HS':Hid (Big.Sl w ao' n c' b' o' f'):=S'
   clear S S' t t'
   go_enter Tryz.func81,Tryz.ntmps81
   go_wp2
   go_loopw [5] (fun i wr=>∃ k:Nat,i=vI ((k:Int) - 1)∧k≤n∧Bl w wr∧∀ j,k≤j → j<n → f j=f' j) (fun i _=>(intOf i+1).toNat)
   case atStart=>exact ⟨n,rfl,Nat.le_refl _,Below.refl _ _,fun j a b=>absurd a (by omega)⟩
   case round =>
    obtain ⟨k,rfl,hk,al,heq⟩:=hrel
    have HA:Hid (Bl w wr):=al
    have HE:Hid (∀ j,k≤j → j<n → f j=f' j):=heq
    clear heq
    by_cases c1:0<k
    · obtain rfl:=HS.out.addr (by omega)
      obtain rfl:=HS'.out.addr (by omega)
      have hc:=(HS.out.below al).cell (k - 1) (by omega)
      have hc':=(HS'.out.below al).cell (k - 1) (by omega)
      clear al
      have ix:((k:Int) - 1).toNat=k - 1:=by omega
      rcases Nat.lt_trichotomy (f (k - 1)) (f' (k - 1)) with q | q | q
      · have r:=ord_lt (Big.V_lt_at HS.out.ws q (n:=n) (by omega) (fun j a b=>HE.out j (by omega) b))
        have HR:Hid (ord (Big.V f n) (Big.V f' n) = -1):=r
        have q2:((f (k - 1):Nat):Int)<((f' (k - 1):Nat):Int):=by omega
        clear r q
        go_wp2
        go_region
        all_goals
         go_wp2
         go_ret
         exact ⟨by rw [HR.out];rfl,HA.out.drew⟩
      · have q1:¬ ((f (k - 1):Nat):Int)<((f' (k - 1):Nat):Int):=by omega
        have q2:¬ ((f' (k - 1):Nat):Int)<((f (k - 1):Nat):Int):=by omega
        have HQ:Hid (f (k - 1)=f' (k - 1)):=q
        clear q
        go_wp2
        go_region
        all_goals
         go_wp2
         go_region
         all_goals
          go_wp2
          go_roundw
          case rel =>
           refine ⟨k - 1,by go_num,by omega,HA.out.drew.drew,fun j a b=>?_⟩
           by_cases z:j=k - 1
           · rw [z];exact HQ.out
           · exact HE.out j (by omega) b
          case measure=>simp [intOf];omega
      · have r:=ord_gt (Big.V_lt_at HS'.out.ws q (n:=n) (by omega) (fun j a b=>(HE.out j (by omega) b).symm))
        have HR:Hid (ord (Big.V f n) (Big.V f' n)=1):=r
        have q1:¬ ((f (k - 1):Nat):Int)<((f' (k - 1):Nat):Int):=by omega
        have q2:((f' (k - 1):Nat):Int)<((f (k - 1):Nat):Int):=by omega
        clear r q
        go_wp2
        go_region
        all_goals
         go_wp2
         go_region
         all_goals
          go_wp2
          go_ret
          exact ⟨by rw [HR.out];rfl,HA.out.drew.drew⟩
    · obtain rfl:k=0:=by omega
      have HR:Hid (ord (Big.V f n) (Big.V f' n)=0):=ord_eq (Big.V_congr fun i hi=>HE.out i (Nat.zero_le _) hi)
      clear HE c1
      go_wp2
      go_ret
      exact ⟨by rw [HR.out];rfl,HA.out⟩
 · have e:=ord_gt (Big.len_lt S'.ws t d)
   rw [e]
   have d1:((n:Int) == (n':Int))=false:=beq_eq_false_iff_ne.mpr (by omega)
   clear e
   go_enter Tryz.func81,Tryz.ntmps81
   go_wp2
   go_ret
   exact ⟨rfl,Below.refl _ _⟩
theorem bcmp_nat {w:World}{va vb:Value}{X Y:Nat}(ha:Big.NatV w va X) (hb:Big.NatV w vb Y) :
 Cb 81 #[va,vb] w (vI (ord X Y)):=by
 obtain ⟨ao,n,c,b,o,f,rfl,S,t,rfl⟩:=ha
 obtain ⟨bo,m,cb,bb,ob,g,rfl,S',t',rfl⟩:=hb
 exact bcmp_any S S' t t'
theorem und_wordsB:Tryz.prog.underlying 23=some (.slice 31):=by kernel_rfl
theorem pair_or {x y:Nat}(hx:x<Big.B) (hy:y<Big.B):bits .or .u64 (x:Int) ((y:Int) * 4294967296)=((x+y * Big.B:Nat):Int):=by
 have e:=up_lo (x:=y) (z:=x) (p:=32) (by omega) hx
 have w:IntKind.u64.wrap ((y:Int) * 2 ^ 32)=(y:Int) * 4294967296:=by
  rw [IntKind.wrap_u64];unfold Big.B at hy;omega
 rw [w] at e
 rw [e]
 unfold Big.B B at *
 omega
def wR (X:Nat):Nat:=if X<B ^ 128 then X else 0
def wE (X:Nat):Nat:=if X<B ^ 128 then 0 else 20
theorem words_big {w:World}{ao:Option Addr}{n c b o:Nat}{g:Nat → Nat}(S:Big.Sl w ao n c b o g) (t:Big.Top g n) (hn:n≤10000) :
 Calls Tryz.prog 78 #[.slice ao n c] w fun e w'=>∃ v,e=.returned (.tuple #[v,vI (wE (Big.V g n):Int)])∧NatV w' v (wR (Big.V g n))∧Bl w w':=by
 obtain ⟨i0,hi,hz0,hz1,hz2⟩:=info_parts info_u64
 have HS:Hid (Big.Sl w ao n c b o g):=S
 have HP:Hid (Ws (pairs g n)∧Top (pairs g n) ((n+1) / 2)∧V (pairs g n) ((n+1) / 2)=Big.V g n):=⟨pairs_Ws S.ws,pairs_Top t,pairs_V g n⟩
 clear S t
 go_enter Tryz.func78,Tryz.ntmps78
 go_wp2
 go_loopw [4,5] (fun v i wr=>∃ k:Nat,i=vI (((2 * k:Nat):Nat):Int)∧2 * k≤n+1∧wr.ownsRow w.heap.size 31 1 v k (dV .u64 (pairs g n) k)∧Bl w wr) (fun _ i _=>n+2 - (intOf i).toNat)
 case atStart=>exact ⟨0,rfl,by omega,World.ownsRow_nil _ _ _ _,Below.refl _ _⟩
 case round =>
  obtain ⟨k,rfl,hk,hown,hbl⟩:=hrel
  have hsz:=hbl.size
  by_cases c1:2 * k<n
  · obtain rfl:=HS.out.addr (by omega)
    have hc:=(HS.out.below hbl).cell (2 * k) c1
    have bf:=HS.out.ws (2 * k)
    have bg:=HS.out.ws (2 * k+1)
    by_cases c2:2 * k+1<n
    · have hc':=(HS.out.below hbl).cell (2 * k+1) c2
      have hor:=pair_or bf bg
      have HW:Hid (g (2 * k)+g (2 * k+1) * Big.B=pairs g n k):=by
       show _=_
       unfold pairs;rw [cut_in c1,cut_in c2]
      generalize g (2 * k)+g (2 * k+1) * Big.B=r at *
      unfold Big.B at bf bg
      generalize hj:2 * k=j at *
      go_wp2_with (first
       | (at_builtin;refine wpList_append_own _ rfl _ _ 23 rfl w.heap.size 31 i0 (vU 0) 1 8 und_wordsB hi hz0 hz1 hz2 rfl (by decide) _ _ _ rfl (hown.alloc _) ⟨wr.heap.size,0,none⟩ 1 1 [vU (r:Int)] rfl rfl (World.news_of_block (cs:=#[vU (r:Int)]) (t:=31) (fr:=(0,0)) (heap_alloc_new wr _)) (by simp [Value.oneCell']) (by unfold maxLen;omega) (by omega) (by rw [World.size_alloc];omega) ?_)
       | go_in)
      intro v' w3 hown' hgrow hnil
      have hb3:Bl w w3:=(hbl.alloc (by omega) _).grown hgrow (by rw [World.size_alloc];omega) (fun q hq=>(hown.lt q hq).1)
      have HO3:Hid (w3.ownsRow w.heap.size 31 1 v' (k+1) (dV .u64 (pairs g n) (k+1))∧Bl w w3):=⟨by rw [dV_succ,← HW.out];exact hown',hb3⟩
      clear hown' hb3 hgrow hnil hown hbl
      go_wp2
      go_roundw
      case rel=>exact ⟨k+1,by go_num,by omega,HO3.out.1,HO3.out.2⟩
      case measure=>simp [intOf];omega
    · have HW:Hid (g (2 * k)=pairs g n k):=by
       show _=_
       unfold pairs;rw [cut_in c1,cut_out c2,Nat.zero_mul,Nat.add_zero]
      unfold Big.B at bf bg
      generalize g (2 * k)=r at *
      generalize hj:2 * k=j at *
      go_wp2_with (first
       | (at_builtin;refine wpList_append_own _ rfl _ _ 23 rfl w.heap.size 31 i0 (vU 0) 1 8 und_wordsB hi hz0 hz1 hz2 rfl (by decide) _ _ _ rfl (hown.alloc _) ⟨wr.heap.size,0,none⟩ 1 1 [vU (r:Int)] rfl rfl (World.news_of_block (cs:=#[vU (r:Int)]) (t:=31) (fr:=(0,0)) (heap_alloc_new wr _)) (by simp [Value.oneCell']) (by unfold maxLen;omega) (by omega) (by rw [World.size_alloc];omega) ?_)
       | go_in)
      intro v' w3 hown' hgrow hnil
      have hb3:Bl w w3:=(hbl.alloc (by omega) _).grown hgrow (by rw [World.size_alloc];omega) (fun q hq=>(hown.lt q hq).1)
      have HO3:Hid (w3.ownsRow w.heap.size 31 1 v' (k+1) (dV .u64 (pairs g n) (k+1))∧Bl w w3):=⟨by rw [dV_succ,← HW.out];exact hown',hb3⟩
      clear hown' hb3 hgrow hnil hown hbl
      go_wp2
      go_roundw
      case rel=>exact ⟨k+1,by go_num,by omega,HO3.out.1,HO3.out.2⟩
      case measure=>simp [intOf];omega
  · obtain rfl:k=(n+1) / 2:=by omega
    obtain ⟨ao',c',b',rfl,S3,_⟩:=own_sl hown HP.out.1
    generalize hj:(n+1) / 2=j at *
    clear hown
    by_cases c3:128<j
    · have HX:Hid (¬ Big.V g n<B ^ 128):=by
       show ¬ _
       intro q
       have:=len_le HP.out.2.1 (by rw [HP.out.2.2];exact q)
       omega
      have c3':(128:Int)<(j:Int):=by omega
      go_wp2
      refine bodyPost_ret (v:=.tuple #[.slice none 0 0,vI 20]) (by simp [results,Tryz.results78,go_sem]) rfl ⟨.slice none 0 0,?_,?_,hbl⟩
      · unfold wE;rw [if_neg HX.out];rfl
      · unfold wR;rw [if_neg HX.out];exact natv_nil _
    · have HX:Hid (Big.V g n<B ^ 128):=by
       show _<_
       rw [← HP.out.2.2]
       exact Nat.lt_of_lt_of_le (V_lt HP.out.1 _) (Nat.pow_le_pow_right B_pos (by omega))
      have c3':¬ (128:Int)<(j:Int):=by omega
      go_wp2
      refine bodyPost_ret (v:=.tuple #[.slice ao' j c',vI 0]) (by simp [results,Tryz.results78,go_sem]) rfl ⟨.slice ao' j c',?_,?_,hbl⟩
      · unfold wE;rw [if_pos HX.out];rfl
      · unfold wR;rw [if_pos HX.out];exact ⟨_,_,_,_,_,_,rfl,S3,HP.out.2.1,HP.out.2.2,by omega⟩
theorem words_any {w:World}{va:Value}{X:Nat}(ha:Big.NatV w va X) (hX:Fits 1000 X) :
 Calls Tryz.prog 78 #[va] w fun e w'=>∃ v,e=.returned (.tuple #[v,vI (wE X:Int)])∧NatV w' v (wR X)∧Bl w w':=by
 obtain ⟨ao,n,c,b,o,f,rfl,S,t,rfl⟩:=ha
 have:=big_len t hX
 exact words_big S t (by omega)
theorem D_two:Big.B=2 ^ 32:=by decide
theorem D_pow (k:Nat):Big.B ^ k=2 ^ (32 * k):=by rw [Nat.pow_mul,D_two]
def bl (X:Nat):Nat:=if X=0 then 0 else Nat.log2 X+1
theorem bl_of {X L:Nat}(h1:2 ^ L≤X) (h2:X<2 ^ (L+1)):bl X=L+1:=by
 have hp:0<2 ^ L:=Nat.pow_pos (by omega)
 have h0:X ≠ 0:=by omega
 unfold bl
 rw [if_neg h0,(Nat.log2_eq_iff h0).2 ⟨h1,h2⟩]
theorem bl_lt (X:Nat):X<2 ^ bl X:=by
 unfold bl
 split
 · rename_i h;rw [h];decide
 · exact Nat.lt_log2_self
theorem bl_le {X:Nat}(h:X ≠ 0):2 ^ (bl X - 1)≤X:=by
 unfold bl
 rw [if_neg h,Nat.add_sub_cancel]
 exact Nat.log2_self_le h
theorem bl_pos {X:Nat}(h:X ≠ 0):0<bl X:=by unfold bl;rw [if_neg h];omega
theorem bl_zero:bl 0=0:=rfl
theorem bl_mono_le {X L:Nat}(h:X<2 ^ L):bl X≤L:=by
 by_cases z:X=0
 · subst z;rw [bl_zero];omega
 · rcases Nat.lt_or_ge L (bl X) with q | q
   · have a:=bl_le z
     have b:2 ^ L≤2 ^ (bl X - 1):=Nat.pow_le_pow_right (by omega) (by omega)
     omega
   · exact q
theorem two_fits {s k:Nat}(h:s<32 * k):Fits k (2 ^ s):=by
 refine ⟨k,Nat.le_refl _,?_⟩
 rw [D_pow]
 exact Nat.pow_lt_pow_right (by omega) h
theorem made_dV (q:Nat):(madeCells #[.int .u32 0] q).toList=dV .u32 (fun _=>0) q:=by
 apply List.ext_getElem?
 intro i
 by_cases h:i<q
 · rw [dV_get h];simp [madeCells,h,Nat.mod_one]
 · simp [madeCells,dV,h]
theorem up_or {x z p:Nat}(hx:x<Big.B) (hp:p<32) (hz:z<2 ^ p):bits .or .u64 (z:Int) (IntKind.u64.wrap ((x:Int) * 2 ^ p))=((x * 2 ^ p+z:Nat):Int)∧x * 2 ^ p+z<B:=by
 have e:=up_lo (x:=x) (z:=z) (p:=p) (by omega) hz
 have h1:x * 2 ^ p+z<B:=by
  have a:(x+1) * 2 ^ p≤Big.B * 2 ^ p:=Nat.mul_le_mul_right _ hx
  have b:Big.B * 2 ^ p≤Big.B * Big.B:=Nat.mul_le_mul_left _ (by rw [D_two];exact Nat.pow_le_pow_right (by omega) (by omega))
  rw [← BB] at b
  rw [Nat.add_mul,Nat.one_mul] at a
  omega
 rw [Nat.mod_eq_of_lt (by omega)] at e
 exact ⟨e,h1⟩
theorem upB_gen {v z P a x t s d r q:Nat}(hv:v+z * P=a * s) (e:d * q+r=x * t+z):v+r * P+q * (P * d)=a * s+x * (t * P):=by
 have h:r * P+q * (P * d)=(d * q+r) * P:=by grind
 rw [e] at h
 grind
theorem up_big {w:World}{ao:Option Addr}{n c b o:Nat}{f:Nat → Nat}(S:Big.Sl w ao n c b o f) (h0:0<n) (hn:n≤1000) (s q p:Nat) (hsq:s=32 * q+p) (hp:p<32) (hq:q≤1000) :
 Calls Tryz.prog 86 #[.slice ao n c,vI (s:Int)] w fun e w'=>∃ v,e=.returned v∧Big.NewV w' w.heap.size v (Big.V f n * 2 ^ s)∧Bl w w':=by
 obtain ⟨i0,hi,hz0,hz1,hz2⟩:=info_parts Big.info_u32
 have hmk:=run_make_row' (P:=Tryz.prog) 90 146 (.int .u32 0) 4 Big.und_big Big.info_u32 rfl .i64 .i64 q (by omega) (by omega)
 have HS:Hid (Big.Sl w ao n c b o f):=S
 obtain rfl:=S.addr h0
 have hz:((n:Int) == 0)=false:=beq_eq_false_iff_ne.mpr (by omega)
 have d1:(s:Int) / 32=(q:Int):=by omega
 have d2:(s:Int) % 32=(p:Int):=by omega
 have d3:(s:Int).tdiv 32=(q:Int):=by rw [Int.tdiv_eq_ediv_of_nonneg (by omega)];exact d1
 have d4:(s:Int).tmod 32=(p:Int):=by rw [Int.tmod_eq_emod_of_nonneg (by omega)];exact d2
 have hs:s≤33000:=by omega
 have HQ:Hid (s=32 * q+p):=hsq
 clear S hsq
 go_enter Tryz.func86,Tryz.ntmps86
 go_wp2
 go_loopw [5,6,7] (fun v cy i wr=>∃ (k z:Nat) (F:Nat → Nat),cy=vU (z:Int)∧i=vI (k:Int)∧k≤n∧Hid (z<2 ^ p)∧z<4294967296∧Big.Ws F∧wr.ownsRow w.heap.size 146 1 v (q+k) (dV .u32 F (q+k))∧Bl w wr∧Hid (Big.V F (q+k)+z * Big.B ^ (q+k)=Big.V f k * 2 ^ s)) (fun _ _ i _=>n - (intOf i).toNat)
 case atStart =>
  refine ⟨0,0,fun _=>0,rfl,rfl,Nat.zero_le _,(Nat.pow_pos (by omega):0<2 ^ p),by omega,fun _=>Big.B_pos,?_,bz _ _,?_⟩
  · have q1:=World.ownsRow_lit (base:=w.heap.size) (e:=146) (size:=1) w (madeCells #[.int .u32 0] q) q (Nat.le_refl _) (by unfold maxLen;omega) (by simp [madeCells])
    rw [made_dV] at q1
    exact q1
  · show Big.V (fun _=>0) (q+0)+0 * _=Big.V f 0 * _
    rw [Big.V_nought,Big.V_zero];omega
 case round =>
  obtain ⟨k,z,F,rfl,rfl,hk,HZ,hz2',hF,hown,hbl,HV⟩:=hrel
  have hsz:=hbl.size
  by_cases c1:k<n
  · have hc:=(HS.out.below hbl).cell k c1
    have hxB:=HS.out.ws k
    obtain ⟨o1,o2⟩:=up_or hxB hp HZ.out
    unfold Big.B at hxB
    have dm:=Nat.div_add_mod (f k * 2 ^ p+z) Big.B
    have HST:Hid (Big.V F (q+k)+(f k * 2 ^ p+z) % Big.B * Big.B ^ (q+k)+(f k * 2 ^ p+z) / Big.B * (Big.B ^ (q+k) * Big.B)=Big.V f (k+1) * 2 ^ s):=by
     show _=_
     have g:=upB_gen (P:=Big.B ^ (q+k)) HV.out dm
     rw [g,Big.V_succ,Nat.add_mul,HQ.out,D_pow,D_pow]
     congr 1
     rw [Nat.mul_assoc (f k),← Nat.pow_add,← Nat.pow_add]
     congr 2
     omega
    have hqz:Hid ((f k * 2 ^ p+z) / Big.B<2 ^ p):=by
     show _<_
     rw [Nat.div_lt_iff_lt_mul Big.B_pos]
     have a:(f k+1) * 2 ^ p≤Big.B * 2 ^ p:=Nat.mul_le_mul_right _ (HS.out.ws k)
     rw [Nat.add_mul,Nat.one_mul] at a
     have:=HZ.out
     rw [Nat.mul_comm (2 ^ p) Big.B]
     omega
    have hq4:(f k * 2 ^ p+z) / Big.B<4294967296:=half_lt o2
    have hr:(f k * 2 ^ p+z) % Big.B<Big.B:=Nat.mod_lt _ Big.B_pos
    have e1:=lo32 (f k * 2 ^ p+z)
    have e2:((f k * 2 ^ p+z:Nat):Int) / 4294967296=(((f k * 2 ^ p+z) / Big.B:Nat):Int):=by unfold Big.B;omega
    generalize (f k * 2 ^ p+z) % Big.B=r at *
    generalize (f k * 2 ^ p+z) / Big.B=q2 at *
    generalize f k * 2 ^ p+z=y at *
    clear dm
    unfold B at o2
    go_wp2_with (first
     | (at_builtin;refine wpList_append_own _ rfl _ _ 90 rfl w.heap.size 146 i0 (.int .u32 0) 1 4 Big.und_big hi hz0 hz1 hz2 rfl (by decide) _ _ _ rfl (hown.alloc _) ⟨wr.heap.size,0,none⟩ 1 1 [.int .u32 (r:Int)] rfl rfl (World.news_of_block (cs:=#[.int .u32 (r:Int)]) (t:=146) (fr:=(0,0)) (heap_alloc_new wr _)) (by simp [Value.oneCell']) (by unfold maxLen;omega) (by omega) (by rw [World.size_alloc];omega) ?_)
     | go_in)
    intro v' w3 hown' hgrow hnil
    have hb3:Bl w w3:=(hbl.alloc (by omega) _).grown hgrow (by rw [World.size_alloc];omega) (fun q hq=>(hown.lt q hq).1)
    have HO3:Hid (w3.ownsRow w.heap.size 146 1 v' (q+(k+1)) (dV .u32 (Big.put F (q+k) r) (q+(k+1)))∧Bl w w3):=⟨by rw [← Nat.add_assoc,dV_put];exact hown',hb3⟩
    clear hown' hb3 hgrow hnil hown hbl
    go_wp2
    go_roundw
    case rel =>
     refine ⟨k+1,q2,Big.put F (q+k) r,rfl,by go_num,by omega,hqz,hq4,Big.put_Ws hF hr,HO3.out.1,HO3.out.2,?_⟩
     show _=_
     rw [← Nat.add_assoc,V_putB,Nat.pow_succ]
     exact HST.out
    case measure=>simp [intOf];omega
  · obtain rfl:k=n:=by omega
    have e1:IntKind.u32.wrap (z:Int)=(z:Int):=by rw [IntKind.wrap_u32];omega
    have HE:Hid (Big.V (Big.put F (q+k) z) (q+k+1)=Big.V f k * 2 ^ s):=by
     show _=_
     rw [V_putB,HV.out]
    have hw:Big.Ws (Big.put F (q+k) z):=Big.put_Ws hF (by unfold Big.B;omega)
    go_wp2_with (first
     | (at_builtin;refine wpList_append_own _ rfl _ _ 90 rfl w.heap.size 146 i0 (.int .u32 0) 1 4 Big.und_big hi hz0 hz1 hz2 rfl (by decide) _ _ _ rfl (hown.alloc _) ⟨wr.heap.size,0,none⟩ 1 1 [.int .u32 (z:Int)] rfl rfl (World.news_of_block (cs:=#[.int .u32 (z:Int)]) (t:=146) (fr:=(0,0)) (heap_alloc_new wr _)) (by simp [Value.oneCell']) (by unfold maxLen;omega) (by omega) (by rw [World.size_alloc];omega) ?_)
     | go_in)
    intro v' w3 hown' hgrow hnil
    have hb3:Bl w w3:=(hbl.alloc (by omega) _).grown hgrow (by rw [World.size_alloc];omega) (fun q hq=>(hown.lt q hq).1)
    rw [← dV_put] at hown'
    obtain ⟨ao',c',b',rfl,S3,hnw⟩:=Big.own_sl hown' hw
    have T:=Big.trim_any S3
    have NV:=S3.trimmedN hnw
    clear hnw
    rw [HE.out] at NV
    clear hown' hgrow hnil hown hbl
    go_wp2_with fail
    refine T.mono ?_
    rintro e wa ⟨rfl,rfl⟩
    go_wp2
    go_ret
    exact ⟨_,rfl,NV,hb3⟩
theorem up_new {w:World}{va:Value}{X:Nat}(ha:Big.NatV w va X) (hX:Fits 1000 X) (s:Nat) (hs:s≤32000) :
 Calls Tryz.prog 86 #[va,vI (s:Int)] w fun e w'=>∃ v,e=.returned v∧Big.NewV w' w.heap.size v (X * 2 ^ s)∧Bl w w':=by
 obtain ⟨ao,n,c,b,o,f,rfl,S,t,rfl⟩:=ha
 have hn:=big_len t hX
 by_cases h0:n=0
 · subst h0
   rw [show Big.V f 0 * 2 ^ s=0 by rw [Big.V_zero,Nat.zero_mul]]
   clear S t hX
   go_enter Tryz.func86,Tryz.ntmps86
   go_wp2
   go_ret
   exact ⟨_,rfl,Big.newv_nil _ _,Below.refl _ _⟩
 · exact up_big S (by omega) hn s (s / 32) (s % 32) (by omega) (by omega) (by omega)
theorem up_any {w:World}{va:Value}{X:Nat}(ha:Big.NatV w va X) (hX:Fits 1000 X) (s:Nat) (hs:s≤32000) :
 Calls Tryz.prog 86 #[va,vI (s:Int)] w fun e w'=>∃ v,e=.returned v∧Big.NatV w' v (X * 2 ^ s)∧Bl w w' :=
 (up_new ha hX s hs).mono fun _ _ ⟨v,e,n,b⟩=>⟨v,e,n.nat,b⟩
structure Big.Row (w:World) (g N:Nat) (F:Nat → Nat):Prop where
 row:w.rowIs g 146 N (fun i=>.int .u32 (F i:Int))
 ws:Big.Ws F
theorem Big.Row.set {w:World}{g N:Nat}{F:Nat → Nat}(R:Big.Row w g N F) (i:Nat) {r:Nat}(hr:r<Big.B):Big.Row (w.setCell ⟨g,i,none⟩ (.int .u32 (r:Int))) g N (Big.put F i r):=by
 refine ⟨(R.row.set i (.int .u32 (r:Int))).congr fun j hj=>?_,Big.put_Ws R.ws hr⟩
 unfold Big.put
 by_cases c:j=i
 · rw [if_pos c,if_pos c]
 · rw [if_neg c,if_neg c]
theorem Big.Row.sl0 {w:World}{g N:Nat}{F:Nat → Nat}(R:Big.Row w g N F) (hN:N≤maxLen):Big.Sl w (some ⟨g,0,none⟩) N N g 0 F :=
 ⟨Nat.le_refl _,hN,fun _=>rfl,fun _=>R.row.lt,fun i hi=>by rw [Nat.zero_add];exact R.row.cell hi,R.ws⟩
theorem Big.made_row (w:World) (n:Nat):Big.Row (w.alloc (.cells (madeCells #[.int .u32 0] n) 146)) w.heap.size n (fun _=>0):=⟨World.rowIs_made _ _ _ _,fun _=>Big.B_pos⟩
theorem small_nat (x:Nat) (hx:x<B) (w:World) :
 Calls Tryz.prog 85 #[vU (x:Int)] w fun e w'=>∃ v,e=.returned v∧Big.NatV w' v x∧Bl w w':=by
 have e1:=lo32 x
 have e2:=hi32 hx
 have h1:x % Big.B<Big.B:=Nat.mod_lt _ Big.B_pos
 have h2:x / Big.B<Big.B:=half_lt hx
 have hS:∀ W:World,Big.Sl (W.alloc (.cells #[.int .u32 ((x % Big.B:Nat):Int),.int .u32 ((x / Big.B:Nat):Int)] 146)) (some ⟨W.heap.size,0,none⟩) 2 2 W.heap.size 0 (halves (fun _=>x)):=fun W =>
  ⟨Nat.le_refl _,by unfold maxLen;omega,fun _=>rfl,fun _=>by simp,fun i hi=>by
   rcases (by omega:i=0 ∨ i=1) with rfl | rfl
   · simp [halves]
   · simp [halves],halves_Ws (fun _=>hx)⟩
 have hV:Big.V (halves (fun _=>x)) 2=x:=by
  have:=halves_V (fun _=>x) 1
  rw [this,V_succ,V_zero,Nat.pow_zero];omega
 have HS:Hid (∀ W:World,Big.Sl (W.alloc (.cells #[.int .u32 ((x % Big.B:Nat):Int),.int .u32 ((x / Big.B:Nat):Int)] 146)) (some ⟨W.heap.size,0,none⟩) 2 2 W.heap.size 0 (halves (fun _=>x))):=hS
 have HV:Hid (Big.V (halves (fun _=>x)) 2=x):=hV
 clear hS hV
 generalize x % Big.B=lo at *
 generalize x / Big.B=hi at *
 have T:=Big.trim_any (HS.out w)
 have NV:=(HS.out w).trimmed
 rw [HV.out] at NV
 go_enter Tryz.func85,Tryz.ntmps85
 go_wp2_with fail
 refine T.mono ?_
 rintro e wa ⟨rfl,rfl⟩
 go_wp2
 go_ret
 exact ⟨_,rfl,NV,bz _ _⟩
theorem Big.Row.drew {w:World}{g N:Nat}{F:Nat → Nat}(R:Big.Row w g N F):Big.Row w.drew g N F:=⟨R.row.drew,R.ws⟩
theorem times_big {w:World}{ao:Option Addr}{n c ba oa:Nat}{f:Nat → Nat}(S:Big.Sl w ao n c ba oa f) {bo:Option Addr}{m cb bb ob:Nat}{g:Nat → Nat}(S':Big.Sl w bo m cb bb ob g) (hn:n≤1000) (hm:m≤1000) :
 Calls Tryz.prog 82 #[.slice ao n c,.slice bo m cb] w fun e w'=>∃ v,e=.returned v∧Big.NatV w' v (Big.V f n * Big.V g m)∧Bl w w':=by
 have hmk:=run_make_row' (P:=Tryz.prog) 90 146 (.int .u32 0) 4 Big.und_big Big.info_u32 rfl .i64 .i64 (n+m) (by omega) (by omega)
 simp only [Int.natCast_add] at hmk
 have HS:Hid (Big.Sl w ao n c ba oa f):=S
 have HS':Hid (Big.Sl w bo m cb bb ob g):=S'
 clear S S'
 go_enter Tryz.func82,Tryz.ntmps82
 go_wp2
 go_loopw [6] (fun i wr=>∃ (k:Nat) (F':Nat → Nat),i=vI (k:Int)∧k≤n∧Big.Row wr w.heap.size (n+m) F'∧Bl w wr∧(∀ j,k+m≤j → F' j=0)∧Big.V F' (k+m)=Big.V f k * Big.V g m) (fun i _=>n - (intOf i).toNat)
 case atStart=>exact ⟨0,fun _=>0,rfl,Nat.zero_le _,Big.made_row _ _,bz _ _,fun _ _=>rfl,by rw [Big.V_nought,Big.V_zero,Nat.zero_mul]⟩
 case round =>
  obtain ⟨k,F',rfl,hk,R',hbl,hz,hv⟩:=hrel
  have HZ:Hid (∀ j,k+m≤j → F' j=0):=hz
  have HV:Hid (Big.V F' (k+m)=Big.V f k * Big.V g m):=hv
  have HB:Hid (Bl w wr):=hbl
  have HR:Hid (Big.Row wr w.heap.size (n+m) F'):=R'
  clear hz hv
  by_cases c1:k<n
  · obtain rfl:=HS.out.addr (by omega)
    have hxB:=HS.out.ws k
    unfold Big.B at hxB
    clear hbl R'
    go_wp2
    go_loopw [7,8] (fun cy i w2=>∃ (j v:Nat) (F2:Nat → Nat),cy=vU (v:Int)∧i=vI (j:Int)∧j≤m∧v<4294967296∧Big.Row w2 w.heap.size (n+m) F2∧Bl w w2∧(∀ t,t<k ∨ k+j≤t → F2 t=F' t)∧Big.V (fun t=>F2 (k+t)) j+v * Big.B ^ j=Big.V (fun t=>F' (k+t)) j+Big.V g j * f k) (fun _ i _=>m - (intOf i).toNat)
    case atStart=>exact ⟨0,0,F',rfl,rfl,Nat.zero_le _,by omega,HR.out,HB.out,fun _ _=>rfl,by simp [Big.V]⟩
    case round =>
     obtain ⟨j,v,F2,rfl,rfl,hj,hv4,R2,hb2,hfr,hVV⟩:=hrel
     have HF:Hid (∀ t,t<k ∨ k+j≤t → F2 t=F' t):=hfr
     have HVV:Hid (Big.V (fun t=>F2 (k+t)) j+v * Big.B ^ j=Big.V (fun t=>F' (k+t)) j+Big.V g j * f k):=hVV
     have HR2:Hid (Big.Row wr w.heap.size (n+m) F2):=R2
     have HB2:Hid (Bl w wr):=hb2
     clear hfr hVV
     by_cases c2:j<m
     · obtain rfl:=HS'.out.addr (by omega)
       have ca:=(HS.out.below hb2).cell k c1
       have cb':=(HS'.out.below hb2).cell j c2
       have cz:=R2.row.cell (i:=k+j) (by omega)
       have fz:=R2.row.frozen (k+j)
       have hyB:=HS'.out.ws j
       have hzB:=R2.ws (k+j)
       unfold Big.B at hyB hzB
       have pm:((f k:Nat):Int) * ((g j:Nat):Int)=((f k * g j:Nat):Int):=by rw [Int.natCast_mul]
       have pl:f k * g j≤18446744065119617025:=Nat.mul_le_mul (show f k≤4294967295 by omega) (show g j≤4294967295 by omega)
       have dm:=Nat.div_add_mod (v+F2 (k+j)+f k * g j) Big.B
       have st:=times_step (β:=Big.B) (y:=g j) (z:=F2 (k+j)) (l:=(v+F2 (k+j)+f k * g j) % Big.B) (d:=(v+F2 (k+j)+f k * g j) / Big.B) HVV.out (by rw [Nat.mul_comm _ Big.B];omega)
       have hr:(v+F2 (k+j)+f k * g j) % Big.B<Big.B:=Nat.mod_lt _ Big.B_pos
       have hq:(v+F2 (k+j)+f k * g j) / Big.B<4294967296:=by unfold Big.B;omega
       have e1:IntKind.u32.wrap ((v:Int)+((F2 (k+j):Nat):Int)+((f k * g j:Nat):Int))=(((v+F2 (k+j)+f k * g j) % Big.B:Nat):Int):=by rw [IntKind.wrap_u32];unfold Big.B;omega
       have e2:((v:Int)+((F2 (k+j):Nat):Int)+((f k * g j:Nat):Int)) / 4294967296=(((v+F2 (k+j)+f k * g j) / Big.B:Nat):Int):=by unfold Big.B;omega
       have HFK:Hid (F2 (k+j)=F' (k+j)):=HF.out _ (Or.inr (by omega))
       have HST:=(show Hid _ from st)
       clear st dm R2 hb2
       generalize (v+F2 (k+j)+f k * g j) % Big.B=r at *
       generalize (v+F2 (k+j)+f k * g j) / Big.B=q at *
       generalize f k * g j=P at *
       have i1:(0:Int)≤(k:Int)+(j:Int):=by omega
       have i2:(k:Int)+(j:Int)<(n:Int)+(m:Int):=by omega
       have i3:(k:Int)<(n:Int):=by omega
       have i4:(j:Int)<(m:Int):=by omega
       have i5:IntKind.i64.wrap ((k:Int)+(j:Int))=(k:Int)+(j:Int):=by rw [IntWalk.i64_left,IntWalk.wrap64_in _ ⟨by omega,by omega⟩]
       have i6:((k:Int)+(j:Int)).toNat=k+j:=by omega
       have u1:IntKind.u64.wrap ((F2 (k+j):Nat):Int)=((F2 (k+j):Nat):Int):=by rw [IntKind.wrap_u64];omega
       have u2:IntKind.u64.wrap ((v:Int)+((F2 (k+j):Nat):Int))=(v:Int)+((F2 (k+j):Nat):Int):=by rw [IntKind.wrap_u64];omega
       have u3:IntKind.u64.wrap ((f k:Nat):Int)=((f k:Nat):Int):=by rw [IntKind.wrap_u64];omega
       have u4:IntKind.u64.wrap ((g j:Nat):Int)=((g j:Nat):Int):=by rw [IntKind.wrap_u64];omega
       have u5:IntKind.u64.wrap (P:Int)=(P:Int):=by rw [IntKind.wrap_u64];omega
       have u6:IntKind.u64.wrap ((v:Int)+((F2 (k+j):Nat):Int)+(P:Int))=(v:Int)+((F2 (k+j):Nat):Int)+(P:Int):=by rw [IntKind.wrap_u64];omega
       go_wp2
       go_region_held3 (fun w'=>w'.cell? ⟨w.heap.size,k+j,none⟩=some (.int .u32 ((F2 (k+j):Nat):Int))∧w'.cell? ⟨ba,oa+k,none⟩=some (.int .u32 ((f k:Nat):Int))∧w'.cell? ⟨bb,ob+j,none⟩=some (.int .u32 ((g j:Nat):Int))) (go_keep) (fail)
       go_wp2
       go_roundw
       case rel =>
        refine ⟨j+1,q,Big.put F2 (k+j) r,rfl,by go_num,by omega,hq,HR2.out.drew.set (k+j) hr,HB2.out.drew.setCell (Nat.le_refl _) _,?_,?_⟩
        · intro t ht
          rw [Big.put_ne (by omega)]
          exact HF.out t (by omega)
        · have e:Big.V (fun t=>Big.put F2 (k+j) r (k+t)) (j+1)=Big.V (fun t=>F2 (k+t)) j+r * Big.B ^ j:=by
           rw [Big.V_succ,Big.V_congr (f:=fun t=>Big.put F2 (k+j) r (k+t)) (g:=fun t=>F2 (k+t)) (fun i hi=>Big.put_ne (by omega)),Big.put_at]
          rw [e,Big.V_succ (fun t=>F' (k+t)),Big.V_succ g,Nat.pow_succ]
          have s:=HST.out
          rw [HFK.out] at s
          exact s
       case measure=>simp [intOf];omega
     · obtain rfl:j=m:=by omega
       have cz:=R2.row.cell (i:=k+j) (by omega)
       have fz:=R2.row.frozen (k+j)
       have e1:IntKind.u32.wrap (v:Int)=(v:Int):=by rw [IntKind.wrap_u32];omega
       have hvB:v<Big.B:=hv4
       clear R2 hb2
       go_wp2
       go_roundw
       case rel =>
        refine ⟨k+1,Big.put F2 (k+j) v,by go_num,by omega,HR2.out.set (k+j) hvB,HB2.out.setCell (Nat.le_refl _) _,?_,?_⟩
        · intro t ht
          rw [Big.put_ne (by omega),HF.out t (by omega)]
          exact HZ.out t (by omega)
        · have e1:Big.V (Big.put F2 (k+j) v) (k+1+j)=Big.V F2 (k+j)+v * Big.B ^ (k+j):=by
           rw [show k+1+j=k+j+1 by omega,Big.V_succ,Big.V_put_low (Nat.le_refl _),Big.put_at]
          have e2:=Big.V_split F2 k j
          have e3:=Big.V_split F' k j
          have e4:Big.V F2 k=Big.V F' k:=Big.V_congr fun i hi=>HF.out i (by omega)
          rw [e4] at e2
          rw [e1,e2,Big.V_succ f k,Nat.pow_add]
          have e5:=mult_gen (p:=Big.B ^ k) HVV.out (u:=Big.V F' k) (a:=Big.V f k) (by rw [← e3];exact HV.out)
          rw [← e5]
          exact split_gen2
       case measure=>simp [intOf];omega
  · obtain rfl:k=n:=by omega
    have T:=Big.trim_any (R'.sl0 (by unfold maxLen;omega))
    have NV:=(R'.sl0 (by unfold maxLen;omega)).trimmed
    rw [HV.out] at NV
    clear R'
    go_wp2_with fail
    refine T.mono ?_
    rintro e wa ⟨rfl,rfl⟩
    go_wp2
    go_ret
    exact ⟨_,rfl,NV,hbl⟩
theorem times_nat {w:World}{va vb:Value}{X Y:Nat}(ha:Big.NatV w va X) (hb:Big.NatV w vb Y) (hX:Fits 1000 X) (hY:Fits 1000 Y) :
 Calls Tryz.prog 82 #[va,vb] w fun e w'=>∃ v,e=.returned v∧Big.NatV w' v (X * Y)∧Bl w w':=by
 obtain ⟨ao,n,c,b,o,f,rfl,S,t,rfl⟩:=ha
 obtain ⟨bo,m,cb,bb,ob,g,rfl,S',t',rfl⟩:=hb
 exact times_big S S' (big_len t hX) (big_len t' hY)
structure ShB (w W:World) (a b c d:Value):Prop where
 sz:w.heap.size+1≤W.heap.size
 bel:Bl w W
 a0:W.cell? ⟨w.heap.size,0,none⟩=some a
 a1:W.cell? ⟨w.heap.size,1,none⟩=some b
 a2:W.cell? ⟨w.heap.size,2,none⟩=some c
 a3:W.cell? ⟨w.heap.size,3,none⟩=some d
theorem ShB.step {w W W':World}{a b c d:Value}(h:ShB w W a b c d) (hb:Bl W W'):ShB w W' a b c d:=by
 have z:=h.sz
 have k:∀ o,W'.cell? ⟨w.heap.size,o,none⟩=W.cell? ⟨w.heap.size,o,none⟩:=fun o=>hb.cell (p:=⟨w.heap.size,o,none⟩) (by show w.heap.size<W.heap.size;omega)
 exact ⟨Nat.le_trans z hb.size,h.bel.trans (hb.mono (by omega)),(k 0).trans h.a0,(k 1).trans h.a1,(k 2).trans h.a2,(k 3).trans h.a3⟩
theorem ShB.drew {w W:World}{a b c d:Value}(h:ShB w W a b c d):ShB w W.drew a b c d:=h.step (Below.refl _ _).drew
structure FlB (W:World) (K:Nat) (a b c d:Value):Prop where
 lt:K<W.heap.size
 a0:W.cell? ⟨K,0,none⟩=some a
 a1:W.cell? ⟨K,1,none⟩=some b
 a2:W.cell? ⟨K,2,none⟩=some c
 a3:W.cell? ⟨K,3,none⟩=some d
 f0:W.frozen? ⟨K,0,none⟩=false
 f1:W.frozen? ⟨K,1,none⟩=false
 f2:W.frozen? ⟨K,2,none⟩=false
 f3:W.frozen? ⟨K,3,none⟩=false
theorem FlB.step {W W':World}{K:Nat}{a b c d:Value}(h:FlB W K a b c d) (hb:Bl W W'):FlB W' K a b c d:=by
 have k:=fun o=>hb.cell (p:=⟨K,o,none⟩) h.lt
 have j:=fun o=>hb.frozen (p:=⟨K,o,none⟩) h.lt
 exact ⟨Nat.lt_of_lt_of_le h.lt hb.size,(k 0).trans h.a0,(k 1).trans h.a1,(k 2).trans h.a2,(k 3).trans h.a3,(j 0).trans h.f0,(j 1).trans h.f1,(j 2).trans h.f2,(j 3).trans h.f3⟩
theorem FlB.new (W:World) (a b c d:Value) (T:TypeId):FlB (W.alloc (.cells #[a,b,c,d] T)) W.heap.size a b c d :=
 ⟨by simp,by simp,by simp,by simp,by simp,World.frozen?_alloc_new _ _ _ _,World.frozen?_alloc_new _ _ _ _,World.frozen?_alloc_new _ _ _ _,World.frozen?_alloc_new _ _ _ _⟩
theorem FlB.drew {W:World}{K:Nat}{a b c d:Value}(h:FlB W K a b c d):FlB W.drew K a b c d:=h.step (Below.refl _ _).drew
theorem FlB.set3 {W:World}{K:Nat}{a b c d:Value}(h:FlB W K a b c d) (v:Value):FlB (W.setCell ⟨K,3,none⟩ v) K a b c v:=by
 obtain ⟨z,a0,a1,a2,a3,f0,f1,f2,f3⟩:=h
 exact ⟨by simpa using z,(World.cell?_setCell_other _ ⟨K,3,none⟩ ⟨K,0,none⟩ v (by intro e;cases e)).trans a0,(World.cell?_setCell_other _ ⟨K,3,none⟩ ⟨K,1,none⟩ v (by intro e;cases e)).trans a1,(World.cell?_setCell_other _ ⟨K,3,none⟩ ⟨K,2,none⟩ v (by intro e;cases e)).trans a2,World.cell?_setCell_same _ _ _ a3,(World.frozen?_setCell ..).trans f0,(World.frozen?_setCell ..).trans f1,(World.frozen?_setCell ..).trans f2,(World.frozen?_setCell ..).trans f3⟩
theorem rfrac_32 (w:World):Cs 37 #[vI 32] w (vI 23):=by
 go_enter Tryz.func37,Tryz.ntmps37
 go_wp2
 go_ret
 exact ⟨rfl,rfl⟩
theorem rtop_32 (w:World):Cs 71 #[vI 32] w (vU 255):=by
 go_enter Tryz.func71,Tryz.ntmps71
 go_wp2
 go_ret
 exact ⟨rfl,rfl⟩
theorem rlow_32 (w:World):Cs 121 #[vI 32] w (vI (-149)):=by
 go_enter Tryz.func121,Tryz.ntmps121
 go_wp2
 go_ret
 exact ⟨rfl,rfl⟩
theorem rsign_32 (w:World):Cs 38 #[vI 32] w (vU 2147483648):=by
 go_enter Tryz.func38,Tryz.ntmps38
 go_wp2
 go_ret
 exact ⟨rfl,rfl⟩
theorem rsize_32 (w:World):Cs 15 #[vI 32] w (.bool true):=by
 go_enter Tryz.func15,Tryz.ntmps15
 go_wp2
 go_ret
 exact ⟨rfl,rfl⟩
theorem rinf_32 (w:World):Cs 36 #[vI 32] w (vU 2139095040):=by
 have H1:=fun W=>rtop_32 W
 have H2:=fun W=>rfrac_32 W
 go_enter Tryz.func36,Tryz.ntmps36
 go_wp2_with fail
 refine (H1 _).mono ?_
 rintro e w ⟨rfl,rfl⟩
 go_wp2_with fail
 refine (H2 _).mono ?_
 rintro e w ⟨rfl,rfl⟩
 go_wp2
 go_ret
 exact ⟨rfl,rfl⟩
theorem rInf_32 (w:World):Cs 19 #[vI 32] w (vU 2139095040):=by
 have H1:=fun W=>rinf_32 W
 go_enter Tryz.func19,Tryz.ntmps19
 go_wp2_with fail
 refine (H1 _).mono ?_
 rintro e w ⟨rfl,rfl⟩
 go_wp2
 go_ret
 exact ⟨rfl,rfl⟩
theorem rmag_32 {b:Nat}(h:b<4294967296) (w:World):Cs 18 #[vU (b:Int),vI 32] w (vU ((mg 2147483648 b:Nat):Int)):=by
 have hA:=andNot_32 b h
 have H1:=fun W=>rsign_32 W
 clear h
 go_enter Tryz.func18,Tryz.ntmps18
 go_wp2_with fail
 refine (H1 _).mono ?_
 rintro e w ⟨rfl,rfl⟩
 go_wp2
 go_ret
 exact ⟨rfl,rfl⟩
theorem rof_32 {b:Nat}(h:b<4294967296) (w:World):Cs 74 #[vU (b:Int),vI 32] w (vI (cl 2139095040 (mg 2147483648 b))):=by
 have HM:=fun W=>rmag_32 h W
 have HI:=fun W=>rinf_32 W
 generalize mg 2147483648 b=x at *
 have C:=cl_cases 2139095040 x
 have C2:(((x:Int) == 0)=true∧cl 2139095040 x=1) ∨ (((x:Int) == 0)=false∧decide ((x:Int)<2139095040)=true∧cl 2139095040 x=2) ∨ (((x:Int) == 0)=false∧decide ((x:Int)<2139095040)=false∧((x:Int) == 2139095040)=true∧cl 2139095040 x=3) ∨ (((x:Int) == 0)=false∧decide ((x:Int)<2139095040)=false∧((x:Int) == 2139095040)=false∧cl 2139095040 x=4):=by
  rcases C with ⟨p,q⟩ | ⟨p0,p1,q⟩ | ⟨p0,p1,q⟩ | ⟨p1,q⟩
  · exact .inl ⟨by simp;omega,q⟩
  · exact .inr (.inl ⟨by simp;omega,by simp;omega,q⟩)
  · exact .inr (.inr (.inl ⟨by simp;omega,by simp;omega,by simp;omega,q⟩))
  · exact .inr (.inr (.inr ⟨by simp;omega,by simp;omega,by simp;omega,q⟩))
 clear C h
 generalize cl 2139095040 x=C at *
 rcases C2 with ⟨p0,rfl⟩ | ⟨p0,p1,rfl⟩ | ⟨p0,p1,p2,rfl⟩ | ⟨p0,p1,p2,rfl⟩
 · go_enter Tryz.func74,Tryz.ntmps74
   go_wp2_with fail
   refine (HM _).mono ?_
   rintro e w ⟨rfl,rfl⟩
   go_wp2
   go_ret
   exact ⟨rfl,rfl⟩
 · go_enter Tryz.func74,Tryz.ntmps74
   go_wp2_with fail
   refine (HM _).mono ?_
   rintro e w ⟨rfl,rfl⟩
   go_wp2_with fail
   refine (HI _).mono ?_
   rintro e w ⟨rfl,rfl⟩
   go_wp2
   go_ret
   exact ⟨rfl,rfl⟩
 · go_enter Tryz.func74,Tryz.ntmps74
   go_wp2_with fail
   refine (HM _).mono ?_
   rintro e w ⟨rfl,rfl⟩
   go_wp2_with fail
   refine (HI _).mono ?_
   rintro e w ⟨rfl,rfl⟩
   go_wp2_with fail
   refine (HI _).mono ?_
   rintro e w ⟨rfl,rfl⟩
   go_wp2
   go_ret
   exact ⟨rfl,rfl⟩
 · go_enter Tryz.func74,Tryz.ntmps74
   go_wp2_with fail
   refine (HM _).mono ?_
   rintro e w ⟨rfl,rfl⟩
   go_wp2_with fail
   refine (HI _).mono ?_
   rintro e w ⟨rfl,rfl⟩
   go_wp2_with fail
   refine (HI _).mono ?_
   rintro e w ⟨rfl,rfl⟩
   go_wp2
   go_ret
   exact ⟨rfl,rfl⟩
theorem rparts_32 {b:Nat}(h:b<4294967296) (w:World):Cs 84 #[vU (b:Int),vI 32] w (.tuple #[vU ((mt 23 (mg 2147483648 b):Nat):Int),vI (xp 23 (-149) (mg 2147483648 b))]):=by
 have HM:=fun W=>rmag_32 h W
 have H2:=fun W=>rfrac_32 W
 have H3:=fun W=>rlow_32 W
 have hl:=mg_lt (g:=2147483648) (by decide) b
 generalize mg 2147483648 b=x at *
 clear h
 have hM:=and_mask_32 (m:=x) (by omega)
 have lo:=Nat.mod_lt x (show 0<8388608 by decide)
 have hO:=or_hid_32 lo
 have E1:Hid (mt 23 x=if x / 8388608=0 then x else x % 8388608+8388608):=rfl
 have E2:Hid (xp 23 (-149) x=if x / 8388608=0 then (-149) else (-149)+((x / 8388608:Nat):Int) - 1):=rfl
 have E3:Hid (x / 8388608 * 8388608+x % 8388608=x):=Nat.div_add_mod' x 8388608
 have hq:x / 8388608<2048:=by omega
 have eq:(x:Int) / 8388608=((x / 8388608:Nat):Int):=rfl
 obtain ⟨y,hr⟩:∃ y,y=x % 8388608:=⟨_,rfl⟩
 obtain ⟨k,hk⟩:∃ k,k=x / 8388608:=⟨_,rfl⟩
 rw [← hr] at hM hO lo E1 E3
 rw [← hk] at hq eq E1 E2 E3
 clear hr hk
 by_cases z:k=0
 · have e0:((k:Int) == 0)=true:=by simp;omega
   have G:Hid (mt 23 x=y∧xp 23 (-149) x=(-149)):=⟨by rw [E1.out,if_pos z];have:=E3.out;rw [z] at this;omega,by rw [E2.out,if_pos z]⟩
   rw [G.out.1,G.out.2]
   clear z
   go_enter Tryz.func84,Tryz.ntmps84
   go_wp2_with fail
   refine (HM _).mono ?_
   rintro e w ⟨rfl,rfl⟩
   go_wp2_with fail
   refine (H2 _).mono ?_
   rintro e w ⟨rfl,rfl⟩
   go_wp2_with fail
   refine (H3 _).mono ?_
   rintro e w ⟨rfl,rfl⟩
   go_wp2
   go_ret2
   exact ⟨rfl,rfl⟩
 · have e0:((k:Int) == 0)=false:=by simp;omega
   have G:Hid (mt 23 x=y+8388608∧xp 23 (-149) x=(-149)+(k:Int) - 1):=⟨by rw [E1.out,if_neg z],by rw [E2.out,if_neg z]⟩
   rw [G.out.1,G.out.2]
   clear z
   go_enter Tryz.func84,Tryz.ntmps84
   go_wp2_with fail
   refine (HM _).mono ?_
   rintro e w ⟨rfl,rfl⟩
   go_wp2_with fail
   refine (H2 _).mono ?_
   rintro e w ⟨rfl,rfl⟩
   go_wp2_with fail
   refine (H3 _).mono ?_
   rintro e w ⟨rfl,rfl⟩
   go_wp2
   go_ret2
   exact ⟨rfl,rfl⟩
theorem rfrac_64 (w:World):Cs 37 #[vI 64] w (vI 52):=by
 go_enter Tryz.func37,Tryz.ntmps37
 go_wp2
 go_ret
 exact ⟨rfl,rfl⟩
theorem rtop_64 (w:World):Cs 71 #[vI 64] w (vU 2047):=by
 go_enter Tryz.func71,Tryz.ntmps71
 go_wp2
 go_ret
 exact ⟨rfl,rfl⟩
theorem rlow_64 (w:World):Cs 121 #[vI 64] w (vI (-1074)):=by
 go_enter Tryz.func121,Tryz.ntmps121
 go_wp2
 go_ret
 exact ⟨rfl,rfl⟩
theorem rsign_64 (w:World):Cs 38 #[vI 64] w (vU 9223372036854775808):=by
 go_enter Tryz.func38,Tryz.ntmps38
 go_wp2
 go_ret
 exact ⟨rfl,rfl⟩
theorem rsize_64 (w:World):Cs 15 #[vI 64] w (.bool true):=by
 go_enter Tryz.func15,Tryz.ntmps15
 go_wp2
 go_ret
 exact ⟨rfl,rfl⟩
theorem rinf_64 (w:World):Cs 36 #[vI 64] w (vU 9218868437227405312):=by
 have H1:=fun W=>rtop_64 W
 have H2:=fun W=>rfrac_64 W
 go_enter Tryz.func36,Tryz.ntmps36
 go_wp2_with fail
 refine (H1 _).mono ?_
 rintro e w ⟨rfl,rfl⟩
 go_wp2_with fail
 refine (H2 _).mono ?_
 rintro e w ⟨rfl,rfl⟩
 go_wp2
 go_ret
 exact ⟨rfl,rfl⟩
theorem rInf_64 (w:World):Cs 19 #[vI 64] w (vU 9218868437227405312):=by
 have H1:=fun W=>rinf_64 W
 go_enter Tryz.func19,Tryz.ntmps19
 go_wp2_with fail
 refine (H1 _).mono ?_
 rintro e w ⟨rfl,rfl⟩
 go_wp2
 go_ret
 exact ⟨rfl,rfl⟩
theorem rmag_64 {b:Nat}(h:b<18446744073709551616) (w:World):Cs 18 #[vU (b:Int),vI 64] w (vU ((mg 9223372036854775808 b:Nat):Int)):=by
 have hA:=andNot_64 b h
 have H1:=fun W=>rsign_64 W
 clear h
 go_enter Tryz.func18,Tryz.ntmps18
 go_wp2_with fail
 refine (H1 _).mono ?_
 rintro e w ⟨rfl,rfl⟩
 go_wp2
 go_ret
 exact ⟨rfl,rfl⟩
theorem rof_64 {b:Nat}(h:b<18446744073709551616) (w:World):Cs 74 #[vU (b:Int),vI 64] w (vI (cl 9218868437227405312 (mg 9223372036854775808 b))):=by
 have HM:=fun W=>rmag_64 h W
 have HI:=fun W=>rinf_64 W
 generalize mg 9223372036854775808 b=x at *
 have C:=cl_cases 9218868437227405312 x
 have C2:(((x:Int) == 0)=true∧cl 9218868437227405312 x=1) ∨ (((x:Int) == 0)=false∧decide ((x:Int)<9218868437227405312)=true∧cl 9218868437227405312 x=2) ∨ (((x:Int) == 0)=false∧decide ((x:Int)<9218868437227405312)=false∧((x:Int) == 9218868437227405312)=true∧cl 9218868437227405312 x=3) ∨ (((x:Int) == 0)=false∧decide ((x:Int)<9218868437227405312)=false∧((x:Int) == 9218868437227405312)=false∧cl 9218868437227405312 x=4):=by
  rcases C with ⟨p,q⟩ | ⟨p0,p1,q⟩ | ⟨p0,p1,q⟩ | ⟨p1,q⟩
  · exact .inl ⟨by simp;omega,q⟩
  · exact .inr (.inl ⟨by simp;omega,by simp;omega,q⟩)
  · exact .inr (.inr (.inl ⟨by simp;omega,by simp;omega,by simp;omega,q⟩))
  · exact .inr (.inr (.inr ⟨by simp;omega,by simp;omega,by simp;omega,q⟩))
 clear C h
 generalize cl 9218868437227405312 x=C at *
 rcases C2 with ⟨p0,rfl⟩ | ⟨p0,p1,rfl⟩ | ⟨p0,p1,p2,rfl⟩ | ⟨p0,p1,p2,rfl⟩
 · go_enter Tryz.func74,Tryz.ntmps74
   go_wp2_with fail
   refine (HM _).mono ?_
   rintro e w ⟨rfl,rfl⟩
   go_wp2
   go_ret
   exact ⟨rfl,rfl⟩
 · go_enter Tryz.func74,Tryz.ntmps74
   go_wp2_with fail
   refine (HM _).mono ?_
   rintro e w ⟨rfl,rfl⟩
   go_wp2_with fail
   refine (HI _).mono ?_
   rintro e w ⟨rfl,rfl⟩
   go_wp2
   go_ret
   exact ⟨rfl,rfl⟩
 · go_enter Tryz.func74,Tryz.ntmps74
   go_wp2_with fail
   refine (HM _).mono ?_
   rintro e w ⟨rfl,rfl⟩
   go_wp2_with fail
   refine (HI _).mono ?_
   rintro e w ⟨rfl,rfl⟩
   go_wp2_with fail
   refine (HI _).mono ?_
   rintro e w ⟨rfl,rfl⟩
   go_wp2
   go_ret
   exact ⟨rfl,rfl⟩
 · go_enter Tryz.func74,Tryz.ntmps74
   go_wp2_with fail
   refine (HM _).mono ?_
   rintro e w ⟨rfl,rfl⟩
   go_wp2_with fail
   refine (HI _).mono ?_
   rintro e w ⟨rfl,rfl⟩
   go_wp2_with fail
   refine (HI _).mono ?_
   rintro e w ⟨rfl,rfl⟩
   go_wp2
   go_ret
   exact ⟨rfl,rfl⟩
theorem rparts_64 {b:Nat}(h:b<18446744073709551616) (w:World):Cs 84 #[vU (b:Int),vI 64] w (.tuple #[vU ((mt 52 (mg 9223372036854775808 b):Nat):Int),vI (xp 52 (-1074) (mg 9223372036854775808 b))]):=by
 have HM:=fun W=>rmag_64 h W
 have H2:=fun W=>rfrac_64 W
 have H3:=fun W=>rlow_64 W
 have hl:=mg_lt (g:=9223372036854775808) (by decide) b
 generalize mg 9223372036854775808 b=x at *
 clear h
 have hM:=and_mask_64 (m:=x) (by omega)
 have lo:=Nat.mod_lt x (show 0<4503599627370496 by decide)
 have hO:=or_hid_64 lo
 have E1:Hid (mt 52 x=if x / 4503599627370496=0 then x else x % 4503599627370496+4503599627370496):=rfl
 have E2:Hid (xp 52 (-1074) x=if x / 4503599627370496=0 then (-1074) else (-1074)+((x / 4503599627370496:Nat):Int) - 1):=rfl
 have E3:Hid (x / 4503599627370496 * 4503599627370496+x % 4503599627370496=x):=Nat.div_add_mod' x 4503599627370496
 have hq:x / 4503599627370496<2048:=by omega
 have eq:(x:Int) / 4503599627370496=((x / 4503599627370496:Nat):Int):=rfl
 obtain ⟨y,hr⟩:∃ y,y=x % 4503599627370496:=⟨_,rfl⟩
 obtain ⟨k,hk⟩:∃ k,k=x / 4503599627370496:=⟨_,rfl⟩
 rw [← hr] at hM hO lo E1 E3
 rw [← hk] at hq eq E1 E2 E3
 clear hr hk
 by_cases z:k=0
 · have e0:((k:Int) == 0)=true:=by simp;omega
   have G:Hid (mt 52 x=y∧xp 52 (-1074) x=(-1074)):=⟨by rw [E1.out,if_pos z];have:=E3.out;rw [z] at this;omega,by rw [E2.out,if_pos z]⟩
   rw [G.out.1,G.out.2]
   clear z
   go_enter Tryz.func84,Tryz.ntmps84
   go_wp2_with fail
   refine (HM _).mono ?_
   rintro e w ⟨rfl,rfl⟩
   go_wp2_with fail
   refine (H2 _).mono ?_
   rintro e w ⟨rfl,rfl⟩
   go_wp2_with fail
   refine (H3 _).mono ?_
   rintro e w ⟨rfl,rfl⟩
   go_wp2
   go_ret2
   exact ⟨rfl,rfl⟩
 · have e0:((k:Int) == 0)=false:=by simp;omega
   have G:Hid (mt 52 x=y+4503599627370496∧xp 52 (-1074) x=(-1074)+(k:Int) - 1):=⟨by rw [E1.out,if_neg z],by rw [E2.out,if_neg z]⟩
   rw [G.out.1,G.out.2]
   clear z
   go_enter Tryz.func84,Tryz.ntmps84
   go_wp2_with fail
   refine (HM _).mono ?_
   rintro e w ⟨rfl,rfl⟩
   go_wp2_with fail
   refine (H2 _).mono ?_
   rintro e w ⟨rfl,rfl⟩
   go_wp2_with fail
   refine (H3 _).mono ?_
   rintro e w ⟨rfl,rfl⟩
   go_wp2
   go_ret2
   exact ⟨rfl,rfl⟩
theorem rsize_no {s:Int}(h:Sn s) (w:World):Cs 15 #[vI s] w (.bool false):=by
 have p1:(s == 32)=false:=by simpa using h.1
 have p2:(s == 64)=false:=by simpa using h.2
 clear h
 go_enter Tryz.func15,Tryz.ntmps15
 go_wp2
 go_ret
 exact ⟨rfl,rfl⟩
theorem rcheck_32 {b:Nat}(h:b<4294967296) (w:World):Cs 73 #[vU (b:Int),vI 32] w (vI 0):=by
 have H:=fun W=>rsize_32 W
 have q:((b:Int) / 4294967296 != 0)=false:=by simp;omega
 go_enter Tryz.func73,Tryz.ntmps73
 go_wp2_with fail
 refine (H _).mono ?_
 rintro e w ⟨rfl,rfl⟩
 go_wp2
 go_ret
 exact ⟨rfl,rfl⟩
theorem rcheck_64 (b:Int) (w:World):Cs 73 #[vU b,vI 64] w (vI 0):=by
 have H:=fun W=>rsize_64 W
 go_enter Tryz.func73,Tryz.ntmps73
 go_wp2_with fail
 refine (H _).mono ?_
 rintro e w ⟨rfl,rfl⟩
 go_wp2
 go_ret
 exact ⟨rfl,rfl⟩
theorem runp_32 {b:Nat}(h:b<4294967296) (w:World):Cb 43 #[vU (b:Int),vI 32] w (.tuple #[.agg #[.bool (uN 2147483648 2139095040 b),vI (cl 2139095040 (mg 2147483648 b)),vU ((uM 2139095040 23 (mg 2147483648 b):Nat):Int),vI (uE 2139095040 23 (-149) (mg 2147483648 b))],vI 0]):=by
 have H:=fun W=>rcheck_32 h W
 have HO:=fun W=>rof_32 h W
 have HS:=fun W=>rsign_32 W
 have HP:=fun W=>rparts_32 h W
 have hA:=and_sign_32 b h
 have hN:((((if ng 2147483648 b then 2147483648 else 0:Nat):Int)) != 0)=ng 2147483648 b:=by
  cases ng 2147483648 b <;> decide
 rw [← hA] at hN
 unfold uN uM uE
 generalize mg 2147483648 b=x at *
 generalize ng 2147483648 b=g at *
 generalize mt 23 x=M at *
 generalize xp 23 (-149) x=X at *
 have HQ:cl 2139095040 x=1 ∨ cl 2139095040 x=2 ∨ cl 2139095040 x=3 ∨ cl 2139095040 x=4:=by
  rcases cl_cases 2139095040 x with ⟨_,q⟩ | ⟨_,_,q⟩ | ⟨_,_,q⟩ | ⟨_,q⟩
  · exact .inl q
  · exact .inr (.inl q)
  · exact .inr (.inr (.inl q))
  · exact .inr (.inr (.inr q))
 generalize cl 2139095040 x=C at *
 obtain ⟨Y,hY⟩:∃ Y,bits BinOp.and IntKind.u64 (b:Int) 2147483648=Y:=⟨_,rfl⟩
 rw [hY] at hN
 clear hA h
 rcases HQ with rfl | rfl | rfl | rfl
 · go_enter Tryz.func43,Tryz.ntmps43
   go_wp2_with fail
   refine (H _).mono ?_
   rintro e w1 ⟨rfl,hh⟩
   subst hh
   go_wp2_with fail
   refine (HS _).mono ?_
   rintro e w1 ⟨rfl,hh⟩
   subst hh
   go_wp2_with fail
   refine (HO _).mono ?_
   rintro e w1 ⟨rfl,hh⟩
   subst hh
   go_wp2
   exact bodyPost_ret (v:=.tuple #[.agg #[.bool g,vI 1,vU 0,vI 0],vI 0]) (by simp [results,Tryz.results43,go_sem]) rfl ⟨rfl,(bz _ _).alloc (by simp) _⟩
 · go_enter Tryz.func43,Tryz.ntmps43
   go_wp2_with fail
   refine (H _).mono ?_
   rintro e w1 ⟨rfl,hh⟩
   subst hh
   go_wp2_with fail
   refine (HS _).mono ?_
   rintro e w1 ⟨rfl,hh⟩
   subst hh
   go_wp2_with fail
   refine (HO _).mono ?_
   rintro e w1 ⟨rfl,hh⟩
   subst hh
   go_wp2_with fail
   refine (HP _).mono ?_
   rintro e w1 ⟨rfl,hh⟩
   subst hh
   go_wp2
   exact bodyPost_ret (v:=.tuple #[.agg #[.bool g,vI 2,vU (M:Int),vI X],vI 0]) (by simp [results,Tryz.results43,go_sem]) rfl ⟨rfl,(bz _ _).alloc (by simp) _⟩
 · go_enter Tryz.func43,Tryz.ntmps43
   go_wp2_with fail
   refine (H _).mono ?_
   rintro e w1 ⟨rfl,hh⟩
   subst hh
   go_wp2_with fail
   refine (HS _).mono ?_
   rintro e w1 ⟨rfl,hh⟩
   subst hh
   go_wp2_with fail
   refine (HO _).mono ?_
   rintro e w1 ⟨rfl,hh⟩
   subst hh
   go_wp2
   exact bodyPost_ret (v:=.tuple #[.agg #[.bool g,vI 3,vU 0,vI 0],vI 0]) (by simp [results,Tryz.results43,go_sem]) rfl ⟨rfl,(bz _ _).alloc (by simp) _⟩
 · go_enter Tryz.func43,Tryz.ntmps43
   go_wp2_with fail
   refine (H _).mono ?_
   rintro e w1 ⟨rfl,hh⟩
   subst hh
   go_wp2_with fail
   refine (HS _).mono ?_
   rintro e w1 ⟨rfl,hh⟩
   subst hh
   go_wp2_with fail
   refine (HO _).mono ?_
   rintro e w1 ⟨rfl,hh⟩
   subst hh
   go_wp2
   exact bodyPost_ret (v:=.tuple #[.agg #[.bool false,vI 4,vU 0,vI 0],vI 0]) (by simp [results,Tryz.results43,go_sem]) rfl ⟨rfl,(bz _ _).alloc (by simp) _⟩
theorem runp_64 {b:Nat}(h:b<18446744073709551616) (w:World):Cb 43 #[vU (b:Int),vI 64] w (.tuple #[.agg #[.bool (uN 9223372036854775808 9218868437227405312 b),vI (cl 9218868437227405312 (mg 9223372036854775808 b)),vU ((uM 9218868437227405312 52 (mg 9223372036854775808 b):Nat):Int),vI (uE 9218868437227405312 52 (-1074) (mg 9223372036854775808 b))],vI 0]):=by
 have H:=fun W=>rcheck_64 (b:Int) W
 have HO:=fun W=>rof_64 h W
 have HS:=fun W=>rsign_64 W
 have HP:=fun W=>rparts_64 h W
 have hA:=and_sign_64 b h
 have hN:((((if ng 9223372036854775808 b then 9223372036854775808 else 0:Nat):Int)) != 0)=ng 9223372036854775808 b:=by
  cases ng 9223372036854775808 b <;> decide
 rw [← hA] at hN
 unfold uN uM uE
 generalize mg 9223372036854775808 b=x at *
 generalize ng 9223372036854775808 b=g at *
 generalize mt 52 x=M at *
 generalize xp 52 (-1074) x=X at *
 have HQ:cl 9218868437227405312 x=1 ∨ cl 9218868437227405312 x=2 ∨ cl 9218868437227405312 x=3 ∨ cl 9218868437227405312 x=4:=by
  rcases cl_cases 9218868437227405312 x with ⟨_,q⟩ | ⟨_,_,q⟩ | ⟨_,_,q⟩ | ⟨_,q⟩
  · exact .inl q
  · exact .inr (.inl q)
  · exact .inr (.inr (.inl q))
  · exact .inr (.inr (.inr q))
 generalize cl 9218868437227405312 x=C at *
 obtain ⟨Y,hY⟩:∃ Y,bits BinOp.and IntKind.u64 (b:Int) 9223372036854775808=Y:=⟨_,rfl⟩
 rw [hY] at hN
 clear hA h
 rcases HQ with rfl | rfl | rfl | rfl
 · go_enter Tryz.func43,Tryz.ntmps43
   go_wp2_with fail
   refine (H _).mono ?_
   rintro e w1 ⟨rfl,hh⟩
   subst hh
   go_wp2_with fail
   refine (HS _).mono ?_
   rintro e w1 ⟨rfl,hh⟩
   subst hh
   go_wp2_with fail
   refine (HO _).mono ?_
   rintro e w1 ⟨rfl,hh⟩
   subst hh
   go_wp2
   exact bodyPost_ret (v:=.tuple #[.agg #[.bool g,vI 1,vU 0,vI 0],vI 0]) (by simp [results,Tryz.results43,go_sem]) rfl ⟨rfl,(bz _ _).alloc (by simp) _⟩
 · go_enter Tryz.func43,Tryz.ntmps43
   go_wp2_with fail
   refine (H _).mono ?_
   rintro e w1 ⟨rfl,hh⟩
   subst hh
   go_wp2_with fail
   refine (HS _).mono ?_
   rintro e w1 ⟨rfl,hh⟩
   subst hh
   go_wp2_with fail
   refine (HO _).mono ?_
   rintro e w1 ⟨rfl,hh⟩
   subst hh
   go_wp2_with fail
   refine (HP _).mono ?_
   rintro e w1 ⟨rfl,hh⟩
   subst hh
   go_wp2
   exact bodyPost_ret (v:=.tuple #[.agg #[.bool g,vI 2,vU (M:Int),vI X],vI 0]) (by simp [results,Tryz.results43,go_sem]) rfl ⟨rfl,(bz _ _).alloc (by simp) _⟩
 · go_enter Tryz.func43,Tryz.ntmps43
   go_wp2_with fail
   refine (H _).mono ?_
   rintro e w1 ⟨rfl,hh⟩
   subst hh
   go_wp2_with fail
   refine (HS _).mono ?_
   rintro e w1 ⟨rfl,hh⟩
   subst hh
   go_wp2_with fail
   refine (HO _).mono ?_
   rintro e w1 ⟨rfl,hh⟩
   subst hh
   go_wp2
   exact bodyPost_ret (v:=.tuple #[.agg #[.bool g,vI 3,vU 0,vI 0],vI 0]) (by simp [results,Tryz.results43,go_sem]) rfl ⟨rfl,(bz _ _).alloc (by simp) _⟩
 · go_enter Tryz.func43,Tryz.ntmps43
   go_wp2_with fail
   refine (H _).mono ?_
   rintro e w1 ⟨rfl,hh⟩
   subst hh
   go_wp2_with fail
   refine (HS _).mono ?_
   rintro e w1 ⟨rfl,hh⟩
   subst hh
   go_wp2_with fail
   refine (HO _).mono ?_
   rintro e w1 ⟨rfl,hh⟩
   subst hh
   go_wp2
   exact bodyPost_ret (v:=.tuple #[.agg #[.bool false,vI 4,vU 0,vI 0],vI 0]) (by simp [results,Tryz.results43,go_sem]) rfl ⟨rfl,(bz _ _).alloc (by simp) _⟩
def Fz (s:Int) (g n f T:Nat) (L:Int):Prop :=
 (s=32∧g=2147483648∧n=2139095040∧f=23∧T=255∧L = -149) ∨ (s=64∧g=9223372036854775808∧n=9218868437227405312∧f=52∧T=2047∧L = -1074)
structure GrB (W:World) (K:Nat) (a b c:Value):Prop where
 lt:K<W.heap.size
 a0:W.cell? ⟨K,0,none⟩=some a
 a1:W.cell? ⟨K,1,none⟩=some b
 a2:W.cell? ⟨K,2,none⟩=some c
 f0:W.frozen? ⟨K,0,none⟩=false
 f1:W.frozen? ⟨K,1,none⟩=false
 f2:W.frozen? ⟨K,2,none⟩=false
theorem GrB.step {W W':World}{K:Nat}{a b c:Value}(h:GrB W K a b c) (hb:Bl W W'):GrB W' K a b c:=by
 have k:=fun o=>hb.cell (p:=⟨K,o,none⟩) h.lt
 have j:=fun o=>hb.frozen (p:=⟨K,o,none⟩) h.lt
 exact ⟨Nat.lt_of_lt_of_le h.lt hb.size,(k 0).trans h.a0,(k 1).trans h.a1,(k 2).trans h.a2,(j 0).trans h.f0,(j 1).trans h.f1,(j 2).trans h.f2⟩
theorem GrB.new (W:World) (a b c:Value) (T:TypeId):GrB (W.alloc (.cells #[a,b,c] T)) W.heap.size a b c :=
 ⟨by simp,by simp,by simp,by simp,World.frozen?_alloc_new _ _ _ _,World.frozen?_alloc_new _ _ _ _,World.frozen?_alloc_new _ _ _ _⟩
theorem rformat_32 (w:World):Cs 76 #[vI 32] w (.tuple #[vI 24,vI (-149)]):=by
 go_enter Tryz.func76,Tryz.ntmps76
 go_wp2
 go_ret2
 exact ⟨rfl,rfl⟩
theorem rformat_64 (w:World):Cs 76 #[vI 64] w (.tuple #[vI 53,vI (-1074)]):=by
 go_enter Tryz.func76,Tryz.ntmps76
 go_wp2
 go_ret2
 exact ⟨rfl,rfl⟩
theorem rformat_z {s:Int}{g n f T:Nat}{L:Int}(h:Fz s g n f T L) (w:World):Cs 76 #[vI s] w (.tuple #[vI ((f:Int)+1),vI L]):=by
 rcases h with ⟨rfl,rfl,rfl,rfl,rfl,rfl⟩ | ⟨rfl,rfl,rfl,rfl,rfl,rfl⟩
 · exact rformat_32 w
 · exact rformat_64 w
theorem rinf_z {s:Int}{g n f T:Nat}{L:Int}(h:Fz s g n f T L) (w:World):Cs 19 #[vI s] w (vU ((T * 2 ^ f:Nat):Int)):=by
 rcases h with ⟨rfl,rfl,rfl,rfl,rfl,rfl⟩ | ⟨rfl,rfl,rfl,rfl,rfl,rfl⟩
 · exact rInf_32 w
 · exact rInf_64 w
theorem fits_shl {k X s:Nat}(h:Fits k X):Fits (k+(s / 32+1)) (X * 2 ^ s):=h.mul (two_fits (by omega))
theorem rexact_ok {m:Nat}{e:Int}(hm:m<18446744073709551616) (h0:-1100≤e) (h1:e≤1000) (w:World):Calls Tryz.prog 77 #[vU (m:Int),vI e] w fun x w'=>∃ (v1 v2:Value) (N D:Nat),x=.returned (.tuple #[v1,v2])∧Big.NatV w' v1 N∧Big.NatV w' v2 D∧Frc N D m e∧Fits 100 N∧Fits 100 D∧Bl w w':=by
 have S1:∀ W,Calls Tryz.prog 85 #[vU 1] W fun e w'=>∃ v,e=.returned v∧Big.NatV w' v 1∧Bl W w':=fun W=>small_nat 1 (by unfold B;decide) W
 have HM:Hid (m<18446744073709551616 ∧ -1100≤e∧e≤1000):=⟨hm,h0,h1⟩
 clear hm h0 h1
 go_enter Tryz.func77,Tryz.ntmps77
 go_wp2
 go_loopw [0,1] (fun mv ev' wr=>∃ (k:Nat) (x:Int),mv=vU (k:Int)∧ev'=vI x∧wr=w∧k<18446744073709551616 ∧ -1100≤x∧x≤1000∧Hid (Eqv m e k x∧(m=0 ↔ k=0))) (fun mv _ _=>(intOf mv).toNat)
 case atStart=>exact ⟨m,e,rfl,rfl,rfl,HM.out.1,HM.out.2.1,HM.out.2.2,Eqv.rfl' m e,Iff.rfl⟩
 case round =>
  obtain ⟨k,x,rfl,rfl,rfl,hk,x0,x1,HI⟩:=hrel
  by_cases go:k ≠ 0∧k % 2=0∧x<0
  · obtain ⟨k0,k2,xn⟩:=go
    have e1:(0:Int)<(k:Int):=by omega
    have e2:(k:Int) % 2=0:=by omega
    have e3:(k:Int) / 2=((k / 2:Nat):Int):=by omega
    have HN:Hid (Eqv m e (k / 2) (x+1)∧(m=0 ↔ k / 2=0)):=⟨HI.out.1.trans (Eqv.half x k2),by have:=HI.out.2;omega⟩
    have k3:k / 2<k:=by omega
    generalize k / 2=k' at *
    clear k2 k0
    go_wp2
    go_roundw
    case rel=>exact ⟨k',x+1,rfl,rfl,trivial,by omega,by omega,by omega,HN.out⟩
    case measure=>simp [intOf];omega
  · by_cases k0:k=0
    · subst k0
      have hm0:m=0:=HI.out.2.2 rfl
      have HF:Hid (Frc 0 1 m e):=by
       refine ⟨⟨min 0 e,by omega,by omega,?_⟩,0,rfl,.inr rfl⟩
       unfold ev
       rw [hm0]
       simp
      clear hm0
      go_wp2_with fail
      refine (S1 _).mono ?_
      rintro y w1 ⟨v,rfl,n1,b1⟩
      have N1:Hid (Big.NatV w1 v 1∧Bl wr w1):=⟨n1,b1⟩
      clear n1 b1
      go_wp2
      go_ret2
      exact ⟨_,v,0,1,rfl,Big.natv_nil w1,N1.out.1,HF.out,(two_fits (s:=0) (k:=100) (by omega)).le (by omega),two_fits (s:=0) (k:=100) (by omega),N1.out.2⟩
    · have S2:=fun W=>small_nat k hk W
      have fk:Fits 2 k:=Fits.word (n:=1) (by rw [Nat.pow_one];exact hk)
      have e1:(0:Int)<(k:Int):=by omega
      have e0:((k:Int) == 0)=false:=by simp;omega
      by_cases xp0:0≤x
      · obtain ⟨j,hj⟩:∃ j:Nat,(j:Int)=x:=⟨x.toNat,by omega⟩
        have HF:Hid (Frc (k * 2 ^ j) 1 m e∧Fits 100 (k * 2 ^ j)):=by
         refine ⟨⟨vE_of_eqv ⟨0,Int.le_refl _,xp0,?_⟩ HI.out.1.symm,0,rfl,.inr rfl⟩,(fits_shl fk).up (by omega)⟩
         unfold ev
         rw [← hj]
         simp
        have T:∀ W v,Big.NatV W v k → Calls Tryz.prog 86 #[v,vI x] W fun e w'=>∃ v,e=.returned v∧Big.NatV w' v (k * 2 ^ j)∧Bl W w':=fun W v h=>by
         have q:=up_any h (fk.up (by omega)) j (by omega)
         rw [hj] at q
         exact q
        clear hj fk
        by_cases par:k % 2=0
        · have e2:(k:Int) % 2=0:=by omega
          clear par
          go_wp2_with fail
          refine (S2 _).mono ?_
          rintro y w1 ⟨v1,rfl,n1,b1⟩
          have N1:Hid (Big.NatV w1 v1 k∧Bl wr w1):=⟨n1,b1⟩
          have T:=T w1 v1 n1
          clear n1 b1
          go_wp2_with fail
          refine T.mono ?_
          rintro y w2 ⟨v2,rfl,n2,b2⟩
          have N2:Hid (Big.NatV w2 v2 (k * 2 ^ j)∧Bl wr w2):=⟨n2,N1.out.2.trans (b2.mono N1.out.2.size)⟩
          clear n2 b2
          go_wp2_with fail
          refine (S1 _).mono ?_
          rintro y w3 ⟨v3,rfl,n3,b3⟩
          have N3:Hid (Big.NatV w3 v2 (k * 2 ^ j)∧Big.NatV w3 v3 1∧Bl wr w3):=⟨N2.out.1.below b3,n3,N2.out.2.trans (b3.mono N2.out.2.size)⟩
          clear n3 b3
          go_wp2
          go_ret2
          exact ⟨v2,v3,k * 2 ^ j,1,rfl,N3.out.1,N3.out.2.1,HF.out.1,HF.out.2,two_fits (s:=0) (k:=100) (by omega),N3.out.2.2⟩
        · have e2:(k:Int) % 2=1:=by omega
          clear par
          go_wp2_with fail
          refine (S2 _).mono ?_
          rintro y w1 ⟨v1,rfl,n1,b1⟩
          have N1:Hid (Big.NatV w1 v1 k∧Bl wr w1):=⟨n1,b1⟩
          have T:=T w1 v1 n1
          clear n1 b1
          go_wp2_with fail
          refine T.mono ?_
          rintro y w2 ⟨v2,rfl,n2,b2⟩
          have N2:Hid (Big.NatV w2 v2 (k * 2 ^ j)∧Bl wr w2):=⟨n2,N1.out.2.trans (b2.mono N1.out.2.size)⟩
          clear n2 b2
          go_wp2_with fail
          refine (S1 _).mono ?_
          rintro y w3 ⟨v3,rfl,n3,b3⟩
          have N3:Hid (Big.NatV w3 v2 (k * 2 ^ j)∧Big.NatV w3 v3 1∧Bl wr w3):=⟨N2.out.1.below b3,n3,N2.out.2.trans (b3.mono N2.out.2.size)⟩
          clear n3 b3
          go_wp2
          go_ret2
          exact ⟨v2,v3,k * 2 ^ j,1,rfl,N3.out.1,N3.out.2.1,HF.out.1,HF.out.2,two_fits (s:=0) (k:=100) (by omega),N3.out.2.2⟩
      · obtain ⟨j,hj⟩:∃ j:Nat,(j:Int) = -x:=⟨(-x).toNat,by omega⟩
        have par:k % 2=1:=by omega
        have HF:Hid (Frc k (1 * 2 ^ j) m e∧Fits 100 k∧Fits 100 (1 * 2 ^ j)):=by
         refine ⟨⟨vE_of_eqv ⟨x,by omega,Int.le_refl _,?_⟩ HI.out.1.symm,j,Nat.one_mul _,.inl par⟩,fk.up (by omega),by rw [Nat.one_mul];exact two_fits (by omega)⟩
         unfold ev
         rw [show (0 - x).toNat=j from by omega,show (x - x).toNat=0 from by omega,Nat.pow_zero,Nat.mul_one,Nat.one_mul,Nat.mul_comm]
        have T:∀ W v,Big.NatV W v 1 → Calls Tryz.prog 86 #[v,vI (-x)] W fun e w'=>∃ v,e=.returned v∧Big.NatV w' v (1 * 2 ^ j)∧Bl W w':=fun W v h=>by
         have q:=up_any h (two_fits (s:=0) (k:=1000) (by omega)) j (by omega)
         rw [hj] at q
         exact q
        have e2:(k:Int) % 2=1:=by omega
        have xn:x<0:=by omega
        clear hj fk par xp0
        go_wp2_with fail
        refine (S2 _).mono ?_
        rintro y w1 ⟨v1,rfl,n1,b1⟩
        have N1:Hid (Big.NatV w1 v1 k∧Bl wr w1):=⟨n1,b1⟩
        clear n1 b1
        go_wp2_with fail
        refine (S1 _).mono ?_
        rintro y w2 ⟨v2,rfl,n2,b2⟩
        have N2:Hid (Big.NatV w2 v1 k∧Bl wr w2):=⟨N1.out.1.below b2,N1.out.2.trans (b2.mono N1.out.2.size)⟩
        have T:=T w2 v2 n2
        clear n2 b2
        go_wp2_with fail
        refine T.mono ?_
        rintro y w3 ⟨v3,rfl,n3,b3⟩
        have N3:Hid (Big.NatV w3 v1 k∧Big.NatV w3 v3 (1 * 2 ^ j)∧Bl wr w3):=⟨N2.out.1.below b3,n3,N2.out.2.trans (b3.mono N2.out.2.size)⟩
        clear n3 b3
        go_wp2
        go_ret2
        exact ⟨v1,v3,k,1 * 2 ^ j,rfl,N3.out.1,N3.out.2.1,HF.out.1,HF.out.2.1,HF.out.2.2,N3.out.2.2⟩
theorem runp_z {s:Int}{g n f T:Nat}{L:Int}(h:Fz s g n f T L) {b:Nat}(hb:b<2 * g) (w:World):Cb 43 #[vU (b:Int),vI s] w (.tuple #[.agg #[.bool (uN g n b),vI (cl n (mg g b)),vU ((uM n f (mg g b):Nat):Int),vI (uE n f L (mg g b))],vI 0]):=by
 rcases h with ⟨rfl,rfl,rfl,rfl,rfl,rfl⟩ | ⟨rfl,rfl,rfl,rfl,rfl,rfl⟩
 · exact runp_32 hb w
 · exact runp_64 hb w
theorem fits_lt {X:Nat}(h:Fits 100 X):X<B ^ 128:=by
 have q:=(h.up (show 100≤2 * 128 by omega)).lt
 rw [← BB_pow] at q
 exact q
theorem words_nat {w:World}{va:Value}{X:Nat}(ha:Big.NatV w va X) (hX:Fits 100 X):Calls Tryz.prog 78 #[va] w fun e w'=>∃ v,e=.returned (.tuple #[v,vI 0])∧NatV w' v X∧Bl w w':=by
 have T:=words_any ha (hX.up (by omega))
 rw [show wE X=0 from if_pos (fits_lt hX),show wR X=X from if_pos (fits_lt hX)] at T
 exact T
theorem rfin_ok {s b:Int}{x0:Bool}{x1 x2 x3:Int}{w:World}(q3:(x1 == 3)=false) (q4:(x1 == 4)=false) (H:∀ W,Cb 43 #[vU b,vI s] W (.tuple #[.agg #[.bool x0,vI x1,vU x2,vI x3],vI 0])):Cb 75 #[vU b,vI s] w (.tuple #[.agg #[.bool x0,vI x1,vU x2,vI x3],vI 0]):=by
 go_enter Tryz.func75,Tryz.ntmps75
 go_wp2_with fail
 refine (H _).mono ?_
 rintro e w1 ⟨rfl,hb⟩
 have X1:Hid (FlB w1 w.heap.size _ _ _ _):=(FlB.new w (.bool false) (vI 0) (vU 0) (vI 0) 93).step hb
 have B1:Hid (Bl w w1):=(bz _ _).trans (hb.mono (by simp))
 clear hb
 obtain ⟨l,a0,a1,a2,a3,f0,f1,f2,f3⟩:=X1.out
 go_wp2
 exact bodyPost_ret (v:=.tuple #[.agg #[.bool x0,vI x1,vU x2,vI x3],vI 0]) (by simp [results,Tryz.results75,go_sem,World.cell?_setCell_same,World.cell?_setCell_other,World.cell?_alloc_lt, *]) rfl ⟨rfl,((((B1.out.setCell (Nat.le_refl _) _).setCell (Nat.le_refl _) _).setCell (Nat.le_refl _) _).setCell (Nat.le_refl _) _).alloc (by simp;omega) _⟩
theorem rhalf_fine {s:Int}{g n f T:Nat}{L:Int}(hz:Fz s g n f T L) {b:Int}{x1:Int}(q1:(x1 == 1)=false) {x2:Nat}{x3:Int}{w:World}(h2:x2<9223372036854775808) (h0:-1099≤x3) (h1:x3≤1000) (H:∀ W,Cb 75 #[vU b,vI s] W (.tuple #[.agg #[.bool false,vI x1,vU (x2:Int),vI x3],vI 0])):Calls Tryz.prog 40 #[vU b,vI s] w fun e w'=>∃ (v1 v2:Value) (N D:Nat),e=.returned (.tuple #[v1,v2,vI 0])∧NatV w' v1 N∧NatV w' v2 D∧Frc N D (2 * x2+1) (x3 - 1)∧Bl w w':=by
 have HR:=fun W=>rexact_ok (m:=2 * x2+1) (e:=x3 - 1) (by omega) (by omega) (by omega) W
 have e1:2 * (x2:Int)+1=((2 * x2+1:Nat):Int):=by omega
 rw [← e1] at HR
 have HF:=fun W=>rformat_z hz W
 clear e1 hz
 go_enter Tryz.func40,Tryz.ntmps40
 go_wp2_with fail
 refine (H _).mono ?_
 rintro e w1 ⟨rfl,hb⟩
 have B2:Hid (Bl w (w1.alloc (.cells #[.bool false,vI x1,vU (x2:Int),vI x3] 93))):=hb.alloc hb.size _
 have X2:Hid (FlB (w1.alloc (.cells #[.bool false,vI x1,vU (x2:Int),vI x3] 93)) w1.heap.size _ _ _ _):=FlB.new w1 _ _ _ _ _
 clear hb H
 go_wp2_with fail
 refine (HF _).mono ?_
 rintro e w2 ⟨rfl,h2w⟩
 rw [← h2w] at B2 X2
 have W2:Hid (w2=_):=h2w
 have T:=HR w2
 clear h2w HF HR
 obtain ⟨_,c0,c1,c2,c3,g0,g1,g2,g3⟩:=X2.out
 go_wp2_with fail
 refine T.mono ?_
 rintro x w3 ⟨v1,v2,N,D,rfl,n1,n2,hf,f1,f2,hb⟩
 have N3:Hid (Big.NatV w3 v2 D∧Fits 100 D∧Frc N D (2 * x2+1) (x3 - 1)∧Bl w w3):=⟨n2,f2,hf,B2.out.trans (hb.mono B2.out.size)⟩
 have K3:Hid (FlB w3 w1.heap.size _ _ _ _):=X2.out.step hb
 have T1:=words_nat n1 f1
 clear hb n1 n2 hf f1 f2 T B2 X2
 go_wp2_with fail
 refine T1.mono ?_
 rintro x w4 ⟨v3,rfl,n3,hb⟩
 have N4:Hid (NatV w4 v3 N∧Frc N D (2 * x2+1) (x3 - 1)∧Bl w w4):=⟨n3,N3.out.2.2.1,N3.out.2.2.2.trans (hb.mono N3.out.2.2.2.size)⟩
 have K4:Hid (FlB w4 w1.heap.size _ _ _ _):=K3.out.step hb
 have T2:=words_nat (N3.out.1.below hb) N3.out.2.1
 clear hb n3 T1 N3 K3
 go_wp2_with fail
 refine T2.mono ?_
 rintro x w5 ⟨v4,rfl,n4,hb⟩
 have N5:Hid (NatV w5 v3 N∧NatV w5 v4 D∧Frc N D (2 * x2+1) (x3 - 1)∧Bl w w5):=⟨N4.out.1.below hb,n4,N4.out.2.1,N4.out.2.2.trans (hb.mono N4.out.2.2.size)⟩
 have K5:Hid (FlB w5 w1.heap.size _ _ _ _):=K4.out.step hb
 clear hb n4 T2 N4 K4
 obtain ⟨_,a0,_,_,_,_,_,_,_⟩:=K5.out
 go_wp2
 exact bodyPost_ret (v:=.tuple #[v3,v4,vI 0]) (by simp [results,Tryz.results40,go_sem]) rfl ⟨v3,v4,N,D,rfl,N5.out.1,N5.out.2.1,N5.out.2.2.1,N5.out.2.2.2⟩
theorem rhalf_zero {s:Int}{g n f T:Nat}{L:Int}(hz:Fz s g n f T L) {b:Int}{x3:Int}{w:World}(H:∀ W,Cb 75 #[vU b,vI s] W (.tuple #[.agg #[.bool false,vI 1,vU 0,vI x3],vI 0])):Calls Tryz.prog 40 #[vU b,vI s] w fun e w'=>∃ (v1 v2:Value) (N D:Nat),e=.returned (.tuple #[v1,v2,vI 0])∧NatV w' v1 N∧NatV w' v2 D∧Frc N D 1 (L - 1)∧Bl w w':=by
 have hL:-1074≤L∧L≤0:=by rcases hz with ⟨_,_,_,_,_,h⟩ | ⟨_,_,_,_,_,h⟩ <;> omega
 obtain ⟨hL1,hL2⟩:=hL
 have HR:=fun W=>rexact_ok (m:=1) (e:=L - 1) (by omega) (by omega) (by omega) W
 rw [show ((1:Nat):Int)=1 from rfl] at HR
 have HF:=fun W=>rformat_z hz W
 clear hz
 go_enter Tryz.func40,Tryz.ntmps40
 go_wp2_with fail
 refine (H _).mono ?_
 rintro e w1 ⟨rfl,hb⟩
 have B2:Hid (Bl w (w1.alloc (.cells #[.bool false,vI 1,vU 0,vI x3] 93))):=hb.alloc hb.size _
 have X2:Hid (FlB (w1.alloc (.cells #[.bool false,vI 1,vU 0,vI x3] 93)) w1.heap.size _ _ _ _):=FlB.new w1 _ _ _ _ _
 have s1:w.heap.size≤w1.heap.size:=hb.size
 clear hb H
 go_wp2_with fail
 refine (HF _).mono ?_
 rintro e w2 ⟨rfl,h2w⟩
 rw [← h2w] at B2 X2
 have W2:Hid (w2=_):=h2w
 have B3:Hid (Bl w (w2.setCell ⟨w1.heap.size,3,none⟩ (vI L))):=B2.out.setCell s1 _
 have X3:Hid (FlB (w2.setCell ⟨w1.heap.size,3,none⟩ (vI L)) w1.heap.size _ _ _ _):=X2.out.set3 _
 have T:=HR (w2.setCell ⟨w1.heap.size,3,none⟩ (vI L))
 clear h2w HF HR
 obtain ⟨_,c0,c1,c2,c3,g0,g1,g2,g3⟩:=X2.out
 clear B2 X2
 have X2:=X3
 clear X3
 go_wp2_with fail
 refine T.mono ?_
 rintro x w3 ⟨v1,v2,N,D,rfl,n1,n2,hf,f1,f2,hb⟩
 have N3:Hid (Big.NatV w3 v2 D∧Fits 100 D∧Frc N D 1 (L - 1)∧Bl w w3):=⟨n2,f2,hf,B3.out.trans (hb.mono B3.out.size)⟩
 have K3:Hid (FlB w3 w1.heap.size _ _ _ _):=X2.out.step hb
 have T1:=words_nat n1 f1
 clear hb n1 n2 hf f1 f2 T B3 X2
 go_wp2_with fail
 refine T1.mono ?_
 rintro x w4 ⟨v3,rfl,n3,hb⟩
 have N4:Hid (NatV w4 v3 N∧Frc N D 1 (L - 1)∧Bl w w4):=⟨n3,N3.out.2.2.1,N3.out.2.2.2.trans (hb.mono N3.out.2.2.2.size)⟩
 have K4:Hid (FlB w4 w1.heap.size _ _ _ _):=K3.out.step hb
 have T2:=words_nat (N3.out.1.below hb) N3.out.2.1
 clear hb n3 T1 N3 K3
 go_wp2_with fail
 refine T2.mono ?_
 rintro x w5 ⟨v4,rfl,n4,hb⟩
 have N5:Hid (NatV w5 v3 N∧NatV w5 v4 D∧Frc N D 1 (L - 1)∧Bl w w5):=⟨N4.out.1.below hb,n4,N4.out.2.1,N4.out.2.2.trans (hb.mono N4.out.2.2.size)⟩
 have K5:Hid (FlB w5 w1.heap.size _ _ _ _):=K4.out.step hb
 clear hb n4 T2 N4 K4
 obtain ⟨_,a0,_,_,_,_,_,_,_⟩:=K5.out
 go_wp2
 exact bodyPost_ret (v:=.tuple #[v3,v4,vI 0]) (by simp [results,Tryz.results40,go_sem]) rfl ⟨v3,v4,N,D,rfl,N5.out.1,N5.out.2.1,N5.out.2.2.1,N5.out.2.2.2⟩
def Qt (X Y q r a b:Nat):Prop:=r<Y * 2 ^ b∧q * (Y * 2 ^ b)+r=X * 2 ^ a∧(a:Int) - (b:Int)=63+(bl Y:Int) - (bl X:Int)
theorem Qt.none {Y q r a b:Nat}(y0:Y ≠ 0) (h:Qt 0 Y q r a b):q=0∧r=0:=by
 obtain ⟨h1,h2,h3⟩:=h
 rw [Nat.zero_mul] at h2
 have p:=Nat.mul_pos (Nat.pos_of_ne_zero y0) (Nat.two_pow_pos b)
 rcases Nat.eq_zero_or_pos q with c | c
 · exact ⟨c,by omega⟩
 · have:=Nat.mul_pos c p;omega
theorem rsize_z {s:Int}{g n f T:Nat}{L:Int}(h:Fz s g n f T L) (w:World):Cs 15 #[vI s] w (.bool true):=by
 rcases h with ⟨rfl,rfl,rfl,rfl,rfl,rfl⟩ | ⟨rfl,rfl,rfl,rfl,rfl,rfl⟩
 · exact rsize_32 w
 · exact rsize_64 w
theorem mt_nought (f:Nat):mt f 0=0:=by unfold mt;rw [if_pos (Nat.zero_div _)]
theorem xp_nought (f:Nat) (L:Int):xp f L 0=L:=by unfold xp;rw [if_pos (Nat.zero_div _)]
theorem rfin_yes {s:Int}{g n f T:Nat}{L:Int}(hz:Fz s g n f T L) {b:Nat}(hb:b<2 * g) (hm:mg g b<n) (W:World):Cb 75 #[vU (b:Int),vI s] W (.tuple #[.agg #[.bool (ng g b),vI (cl n (mg g b)),vU ((uM n f (mg g b):Nat):Int),vI (uE n f L (mg g b))],vI 0]):=by
 have H:=fun W=>runp_z hz hb W
 have e0:uN g n b=ng g b:=by
  unfold uN
  rw [if_neg]
  intro q
  rcases cl_cases n (mg g b) with ⟨_,k⟩ | ⟨_,_,k⟩ | ⟨_,_,k⟩ | ⟨_,k⟩ <;> omega
 rw [e0] at H
 refine rfin_ok ?_ ?_ H
 · rcases cl_cases n (mg g b) with ⟨_,k⟩ | ⟨_,_,k⟩ | ⟨_,q,k⟩ | ⟨q,k⟩
   · rw [k];decide
   · rw [k];decide
   · omega
   · omega
 · rcases cl_cases n (mg g b) with ⟨_,k⟩ | ⟨_,_,k⟩ | ⟨_,q,k⟩ | ⟨q,k⟩
   · rw [k];decide
   · rw [k];decide
   · omega
   · omega
end Go.Proofs.YteeobndfnkeldaaGreatDoor
