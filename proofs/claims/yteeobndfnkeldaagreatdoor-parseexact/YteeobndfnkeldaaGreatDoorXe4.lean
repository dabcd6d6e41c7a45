/-
  Holds: UEx1 UEx2 UEx3 UEx3c UEx4.
-/
import Derived.Laws.BitsAllLaws
import Derived.Test.YteeobndfnkeldaaGreatDoorChecked
import Derived.Lib.ItoaNum
import Derived.Laws.Externs
import Derived.WalkKit
import Derived.WalkSpells
import Derived.WalkLawsBesides
import Derived.Lib.Mul64
import Derived.Lib.TrailingZeros
import Derived.Deep.OwnRows
import Derived.Laws.CopyOwn
import Derived.BigQuiet
import Derived.Deep.RegionHeld3
import Derived.Deep.LoopGhost
import Derived.Deep.AppendLies
import Derived.Deep.DeepCutAuto
import Derived.Stop.Asserts
import Derived.RowKitTokens
import Derived.Lib.Strings
import Derived.Lib.BufferWrite
import Derived.Lib.ConvBytes
import Derived.Test.YteeobndfnkeldaaGreatDoorXe3
set_option maxRecDepth 100000
set_option maxHeartbeats 4000000
namespace Go.Proofs.YteeobndfnkeldaaGreatDoor
open Go.RowKit
def B:Nat:=18446744073709551616
theorem B_pos:0<B:=by decide
theorem Bp_pos (n:Nat):0<B ^ n:=Nat.pow_pos B_pos
def V (f:Nat → Nat):Nat → Nat
 | 0=>0
 | n+1=>V f n+f n * B ^ n
def Ws (f:Nat → Nat):Prop:=∀ i,f i<B
theorem V_zero (f:Nat → Nat):V f 0=0:=rfl
theorem V_succ (f:Nat → Nat) (n:Nat):V f (n+1)=V f n+f n * B ^ n:=rfl
theorem V_congr {f g:Nat → Nat}:∀ {n:Nat},(∀ i,i<n → f i=g i) → V f n=V g n
 | 0,_=>rfl
 | n+1,h=>by rw [V_succ,V_succ,V_congr (fun i hi=>h i (by omega)),h n (by omega)]
theorem V_lt {f : Nat → Nat} (hf : Ws f) : ∀ n, V f n < B ^ n
  | 0 => by rw [V_zero, Nat.pow_zero]; decide
  | n + 1 => by
    have a := V_lt hf n
    have b := hf n
    have c : (f n + 1) * B ^ n ≤ B * B ^ n := Nat.mul_le_mul_right _ b
    rw [V_succ, Nat.pow_succ]
    rw [Nat.add_mul, Nat.one_mul] at c
    rw [Nat.mul_comm (B ^ n) B]
    omega
theorem V_ge {f:Nat → Nat}{n:Nat}(h:f n ≠ 0):B ^ n≤V f (n+1):=by
 have a:1 * B ^ n≤f n * B ^ n:=Nat.mul_le_mul_right _ (by omega)
 rw [V_succ];omega
theorem split_gen {u v x p q:Nat}:u+v * p+x * (p * q)=u+(v+x * q) * p:=by grind
theorem V_split (f : Nat → Nat) (a : Nat) : ∀ b, V f (a + b) = V f a + V (fun i => f (a + i)) b * B ^ a
  | 0 => by rw [V_zero, Nat.zero_mul]; rfl
  | b + 1 => by
    have e := V_split f a b
    rw [← Nat.add_assoc, V_succ, e, V_succ, Nat.pow_add]
    exact split_gen
theorem V_zeros {f : Nat → Nat} {m : Nat} : ∀ {n : Nat}, m ≤ n → (∀ i, m ≤ i → i < n → f i = 0) → V f n = V f m
  | 0, h, _ => by
    have e : m = 0 := by omega
    rw [e]
  | n + 1, h, z => by
    by_cases e : m = n + 1
    · rw [e]
    · rw [V_succ, z n (by omega) (by omega), Nat.zero_mul, Nat.add_zero]
      exact V_zeros (by omega) (fun i a b => z i a (by omega))
theorem V_nought (n:Nat):V (fun _=>0) n=0:=V_zeros (f:=fun _=>0) (Nat.zero_le n) (fun _ _ _=>rfl)
def Top (f:Nat → Nat) (n:Nat):Prop:=n=0 ∨ f (n - 1) ≠ 0
theorem Top_ge {f:Nat → Nat}{n:Nat}(h:Top f n) (hn:0<n):B ^ (n - 1)≤V f n:=by
 rcases h with h | h
 · omega
 · have:=V_ge h
   rw [show n - 1+1=n by omega] at this
   exact this
theorem len_lt {f g:Nat → Nat}{m n:Nat}(hf:Ws f) (hg:Top g n) (h:m<n):V f m<V g n:=by
 have a:=V_lt hf m
 have b:=Top_ge hg (by omega)
 have c:B ^ m≤B ^ (n - 1):=Nat.pow_le_pow_right B_pos (by omega)
 omega
theorem len_le {f:Nat → Nat}{n k:Nat}(t:Top f n) (h:V f n<B ^ k):n≤k:=by
 by_cases c:n≤k
 · exact c
 · exfalso
   have a:=Top_ge t (by omega)
   have b:B ^ k≤B ^ (n - 1):=Nat.pow_le_pow_right B_pos (by omega)
   omega
def tl (f:Nat → Nat):Nat → Nat
 | 0=>0
 | n+1=>if f n=0 then tl f n else n+1
theorem tl_le (f : Nat → Nat) : ∀ n, tl f n ≤ n
  | 0 => Nat.le_refl _
  | n + 1 => by
    unfold tl
    split
    · have := tl_le f n; omega
    · exact Nat.le_refl _
theorem tl_top (f : Nat → Nat) : ∀ n, Top f (tl f n)
  | 0 => Or.inl rfl
  | n + 1 => by
    unfold tl
    split
    · exact tl_top f n
    · exact Or.inr (by simpa using ‹_›)
theorem tl_V (f : Nat → Nat) : ∀ n, V f (tl f n) = V f n
  | 0 => rfl
  | n + 1 => by
    unfold tl
    split
    · rename_i h; rw [tl_V f n, V_succ, h, Nat.zero_mul, Nat.add_zero]
    · rfl
theorem tl_zero {f:Nat → Nat}{n:Nat}(h:f n=0):tl f (n+1)=tl f n:=by
 show (if f n=0 then tl f n else n+1)=_
 rw [if_pos h]
theorem tl_stop {f:Nat → Nat}{n:Nat}(h:f n ≠ 0):tl f (n+1)=n+1:=by
 show (if f n=0 then tl f n else n+1)=_
 rw [if_neg h]
def ord (x y:Nat):Int:=if x<y then -1 else if y<x then 1 else 0
theorem ord_lt {x y:Nat}(h:x<y):ord x y = -1:=by unfold ord;rw [if_pos h]
theorem ord_gt {x y:Nat}(h:y<x):ord x y=1:=by unfold ord;rw [if_neg (by omega),if_pos h]
theorem ord_eq {x y:Nat}(h:x=y):ord x y=0:=by unfold ord;rw [if_neg (by omega),if_neg (by omega)]
theorem V_lt_at {f g : Nat → Nat} (hf : Ws f) {k : Nat} (hk : f k < g k) : ∀ {n : Nat}, k < n → (∀ j, k < j → j < n → f j = g j) → V f n < V g n
  | 0, h, _ => absurd h (by omega)
  | n + 1, h, e => by
    by_cases c : k = n
    · subst c
      have a := V_lt hf k
      have b : (f k + 1) * B ^ k ≤ g k * B ^ k := Nat.mul_le_mul_right _ hk
      rw [V_succ, V_succ]
      rw [Nat.add_mul, Nat.one_mul] at b
      omega
    · have i := V_lt_at hf hk (n := n) (by omega) (fun j a b => e j a (by omega))
      rw [V_succ, V_succ, e n (by omega) (by omega)]
      omega
def put (f:Nat → Nat) (k x:Nat):Nat → Nat:=fun i=>if i=k then x else f i
theorem put_at (f:Nat → Nat) (k x:Nat):put f k x k=x:=by unfold put;rw [if_pos rfl]
theorem put_ne {f:Nat → Nat}{k x i:Nat}(h:i ≠ k):put f k x i=f i:=by unfold put;rw [if_neg h]
theorem put_Ws {f:Nat → Nat}{k x:Nat}(hf:Ws f) (hx:x<B):Ws (put f k x):=by
 intro i;unfold put;split
 · exact hx
 · exact hf i
theorem V_put_low {f:Nat → Nat}{k x n:Nat}(h:n≤k):V (put f k x) n=V f n:=V_congr fun i hi=>put_ne (by omega)
theorem sum_gen {β v a b p x y c q r:Nat}(h:v+c * p=a+b) (e:β * q+r=x+y+c):v+r * p+q * (p * β)=a+x * p+(b+y * p):=by
 have:r * p+q * (p * β)=(β * q+r) * p:=by grind
 rw [e] at this
 grind
theorem sum_step {v a b p x y c:Nat}(h:v+c * p=a+b):v+(x+y+c) % B * p+(x+y+c) / B * (p * B)=a+x * p+(b+y * p) :=
 sum_gen h (Nat.div_add_mod (x+y+c) B)
theorem sub_step {β v a b p x y c l d:Nat}(h:v+b=a+c * p) (hl:l+y+c=x+d * β):v+l * p+(b+y * p)=a+x * p+d * (p * β):=by
 have:l * p+y * p+c * p=x * p+d * (p * β):=by
  have e:(l+y+c) * p=(x+d * β) * p:=by rw [hl]
  grind
 omega
namespace Big
def B:Nat:=4294967296
theorem B_pos:0<B:=by decide
theorem Bp_pos (n:Nat):0<B ^ n:=Nat.pow_pos B_pos
def V (f:Nat → Nat):Nat → Nat
 | 0=>0
 | n+1=>V f n+f n * B ^ n
def Ws (f:Nat → Nat):Prop:=∀ i,f i<B
theorem V_zero (f:Nat → Nat):V f 0=0:=rfl
theorem V_succ (f:Nat → Nat) (n:Nat):V f (n+1)=V f n+f n * B ^ n:=rfl
theorem V_congr {f g:Nat → Nat}:∀ {n:Nat},(∀ i,i<n → f i=g i) → V f n=V g n
 | 0,_=>rfl
 | n+1,h=>by rw [V_succ,V_succ,V_congr (fun i hi=>h i (by omega)),h n (by omega)]
theorem V_ge {f:Nat → Nat}{n:Nat}(h:f n ≠ 0):B ^ n≤V f (n+1):=by
 have a:1 * B ^ n≤f n * B ^ n:=Nat.mul_le_mul_right _ (by omega)
 rw [V_succ];omega
theorem split_gen {u v x p q:Nat}:u+v * p+x * (p * q)=u+(v+x * q) * p:=by grind
theorem V_split (f : Nat → Nat) (a : Nat) : ∀ b, V f (a + b) = V f a + V (fun i => f (a + i)) b * B ^ a
  | 0 => by rw [V_zero, Nat.zero_mul]; rfl
  | b + 1 => by
    have e := V_split f a b
    rw [← Nat.add_assoc, V_succ, e, V_succ, Nat.pow_add]
    exact split_gen
theorem V_zeros {f : Nat → Nat} {m : Nat} : ∀ {n : Nat}, m ≤ n → (∀ i, m ≤ i → i < n → f i = 0) → V f n = V f m
  | 0, h, _ => by
    have e : m = 0 := by omega
    rw [e]
  | n + 1, h, z => by
    by_cases e : m = n + 1
    · rw [e]
    · rw [V_succ, z n (by omega) (by omega), Nat.zero_mul, Nat.add_zero]
      exact V_zeros (by omega) (fun i a b => z i a (by omega))
theorem V_nought (n:Nat):V (fun _=>0) n=0:=V_zeros (f:=fun _=>0) (Nat.zero_le n) (fun _ _ _=>rfl)
def Top (f:Nat → Nat) (n:Nat):Prop:=n=0 ∨ f (n - 1) ≠ 0
theorem Top_ge {f:Nat → Nat}{n:Nat}(h:Top f n) (hn:0<n):B ^ (n - 1)≤V f n:=by
 rcases h with h | h
 · omega
 · have:=V_ge h
   rw [show n - 1+1=n by omega] at this
   exact this
theorem len_le {f:Nat → Nat}{n k:Nat}(t:Top f n) (h:V f n<B ^ k):n≤k:=by
 by_cases c:n≤k
 · exact c
 · exfalso
   have a:=Top_ge t (by omega)
   have b:B ^ k≤B ^ (n - 1):=Nat.pow_le_pow_right B_pos (by omega)
   omega
def tl (f:Nat → Nat):Nat → Nat
 | 0=>0
 | n+1=>if f n=0 then tl f n else n+1
theorem tl_le (f : Nat → Nat) : ∀ n, tl f n ≤ n
  | 0 => Nat.le_refl _
  | n + 1 => by
    unfold tl
    split
    · have := tl_le f n; omega
    · exact Nat.le_refl _
theorem tl_top (f : Nat → Nat) : ∀ n, Top f (tl f n)
  | 0 => Or.inl rfl
  | n + 1 => by
    unfold tl
    split
    · exact tl_top f n
    · exact Or.inr (by simpa using ‹_›)
theorem tl_V (f : Nat → Nat) : ∀ n, V f (tl f n) = V f n
  | 0 => rfl
  | n + 1 => by
    unfold tl
    split
    · rename_i h; rw [tl_V f n, V_succ, h, Nat.zero_mul, Nat.add_zero]
    · rfl
theorem tl_zero {f:Nat → Nat}{n:Nat}(h:f n=0):tl f (n+1)=tl f n:=by
 show (if f n=0 then tl f n else n+1)=_
 rw [if_pos h]
theorem tl_stop {f:Nat → Nat}{n:Nat}(h:f n ≠ 0):tl f (n+1)=n+1:=by
 show (if f n=0 then tl f n else n+1)=_
 rw [if_neg h]
def put (f:Nat → Nat) (k x:Nat):Nat → Nat:=fun i=>if i=k then x else f i
theorem put_at (f:Nat → Nat) (k x:Nat):put f k x k=x:=by unfold put;rw [if_pos rfl]
theorem put_ne {f:Nat → Nat}{k x i:Nat}(h:i ≠ k):put f k x i=f i:=by unfold put;rw [if_neg h]
theorem put_Ws {f:Nat → Nat}{k x:Nat}(hf:Ws f) (hx:x<B):Ws (put f k x):=by
 intro i;unfold put;split
 · exact hx
 · exact hf i
theorem V_put_low {f:Nat → Nat}{k x n:Nat}(h:n≤k):V (put f k x) n=V f n:=V_congr fun i hi=>put_ne (by omega)
end Big
theorem BB:B=Big.B * Big.B:=by decide
theorem BB_pow (k:Nat):B ^ k=Big.B ^ (2 * k):=by rw [BB,Nat.pow_mul,Nat.pow_two]
def halves (f:Nat → Nat) (i:Nat):Nat:=if i % 2=0 then f (i / 2) % Big.B else f (i / 2) / Big.B
theorem halves_even (f:Nat → Nat) (k:Nat):halves f (2 * k)=f k % Big.B:=by
 unfold halves;rw [if_pos (by omega),show 2 * k / 2=k by omega]
theorem halves_odd (f:Nat → Nat) (k:Nat):halves f (2 * k+1)=f k / Big.B:=by
 unfold halves;rw [if_neg (by omega),show (2 * k+1) / 2=k by omega]
theorem half_lt {x:Nat}(h:x<B):x / Big.B<Big.B:=Nat.div_lt_of_lt_mul (by rw [← BB];exact h)
theorem halves_Ws {f:Nat → Nat}(h:Ws f):Big.Ws (halves f):=by
 intro i;unfold halves;split
 · exact Nat.mod_lt _ Big.B_pos
 · exact half_lt (h _)
theorem half_gen {v x d p q:Nat}(q1:d * (x / d)+x % d=x) (hp:q=p):v+x % d * q+x / d * (q * d)=v+x * p:=by
 rw [hp]
 have e:x % d * p+x / d * (p * d)=(d * (x / d)+x % d) * p:=by grind
 rw [q1] at e
 omega
theorem halves_V (f : Nat → Nat) : ∀ k, Big.V (halves f) (2 * k) = V f k
  | 0 => rfl
  | k + 1 => by
    rw [show 2 * (k + 1) = 2 * k + 1 + 1 by omega, Big.V_succ, Big.V_succ, halves_V f k, halves_even, halves_odd, V_succ, Nat.pow_succ]
    exact half_gen (Nat.div_add_mod _ _) (BB_pow k).symm
theorem pair_lt {x y:Nat}(hx:x<Big.B) (hy:y<Big.B):x+y * Big.B<B:=by
 have h:=Nat.mul_le_mul_right Big.B (Nat.succ_le_of_lt hy)
 rw [← BB,Nat.succ_mul] at h
 omega
theorem pow_cast (s:Nat):((2:Int) ^ s)=((2 ^ s:Nat):Int):=by push_cast;rfl
theorem shl_or (a c s:Nat) (h1:s≤64) (hc:c<2 ^ s):(a * 2 ^ s % 18446744073709551616) ||| c=(a * 2 ^ s+c) % 18446744073709551616:=by
 have p2:2 ^ (64 - s) * 2 ^ s=18446744073709551616:=by rw [← Nat.pow_add,show 64 - s+s=64 by omega]
 have e:a * 2 ^ s % 18446744073709551616=2 ^ s * (a % 2 ^ (64 - s)):=by
  rw [← p2,Nat.mul_mod_mul_right,Nat.mul_comm]
 have l:2 ^ s * (a % 2 ^ (64 - s))+c<18446744073709551616:=by
  have q:a % 2 ^ (64 - s)+1≤2 ^ (64 - s):=Nat.mod_lt _ (Nat.pow_pos (by omega))
  have r:=Nat.mul_le_mul_left (2 ^ s) q
  rw [Nat.mul_add,Nat.mul_comm (2 ^ s) (2 ^ (64 - s)),p2] at r
  omega
 rw [e,← Nat.two_pow_add_eq_or_of_lt hc,Nat.add_mod,e]
 have c2:c<18446744073709551616:=by omega
 rw [Nat.mod_eq_of_lt c2,Nat.mod_eq_of_lt l]
structure Sl (w:World) (ao:Option Addr) (n c:Nat) (b o:Nat) (f:Nat → Nat):Prop where
 le:n≤c
 cap:c≤maxLen
 addr:0<n → ao=some ⟨b,o,none⟩
 blk:0<n → b<w.heap.size
 cell:∀ i,i<n → w.cell? ⟨b,o+i,none⟩=some (vU (f i:Int))
 ws:Ws f
theorem Sl.below {w w':World}{ao:Option Addr}{n c b o:Nat}{f:Nat → Nat}(S:Sl w ao n c b o f) (hb:Bl w w'):Sl w' ao n c b o f :=
 ⟨S.le,S.cap,S.addr,fun h=>Nat.lt_of_lt_of_le (S.blk h) hb.size,fun i hi=>(hb.cell (p:=⟨b,o+i,none⟩) (S.blk (by omega))).trans (S.cell i hi),S.ws⟩
structure Row (w:World) (g N:Nat) (F:Nat → Nat):Prop where
 row:w.rowIs g 31 N (fun i=>vU (F i:Int))
 ws:Ws F
theorem Row.set {w:World}{g N:Nat}{F:Nat → Nat}(R:Row w g N F) (i:Nat) {r:Nat}(hr:r<B):Row (w.setCell ⟨g,i,none⟩ (vU (r:Int))) g N (put F i r):=by
 refine ⟨(R.row.set i (vU (r:Int))).congr fun j hj=>?_,put_Ws R.ws hr⟩
 unfold put
 by_cases c:j=i
 · rw [if_pos c,if_pos c]
 · rw [if_neg c,if_neg c]
theorem Row.drew {w:World}{g N:Nat}{F:Nat → Nat}(R:Row w g N F):Row w.drew g N F:=⟨R.row.drew,R.ws⟩
theorem Row.kept {w w':World}{g g' N:Nat}{F:Nat → Nat}(R:Row w g N F) (h:w.grownBy w' (some g')) (hne:g ≠ g'):Row w' g N F :=
 ⟨R.row.of_block (h.block g R.row.lt (fun e=>hne (Option.some.inj e))),R.ws⟩
theorem Row.below {w w':World}{g N:Nat}{F:Nat → Nat}(R:Row w g N F) (h:Bl w w'):Row w' g N F :=
 ⟨R.row.of_block (h.block g R.row.lt),R.ws⟩
theorem Sl.kept {w w':World}{ao:Option Addr}{n c b o g:Nat}{f:Nat → Nat}(S:Sl w ao n c b o f) (h:w.grownBy w' (some g)) (hne:0<n → b ≠ g):Sl w' ao n c b o f :=
 ⟨S.le,S.cap,S.addr,fun q=>Nat.lt_of_lt_of_le (S.blk q) h.size,fun i hi=>by
  rw [World.cell?_of_block (w:=w) (h.block b (S.blk (by omega)) (fun e=>hne (by omega) (Option.some.inj e)))];exact S.cell i hi,S.ws⟩
theorem grown_set {w wr:World}{g i:Nat}(h:w.grownBy wr (some g)) (v:Value):w.grownBy (wr.setCell ⟨g,i,none⟩ v) (some g) :=
 ⟨h.os,h.tape,h.output,by rw [World.size_setCell];exact h.size,fun k hk hne=>(Below.heap_setCell _ _ _ _ (fun e=>hne (by rw [e]))).trans (h.block k hk hne)⟩
theorem times_step {β v a b p x y z c l:Nat}(h:v+c * p=a+b * x) {d:Nat}(e:l+d * β=x * y+z+c):v+l * p+d * (p * β)=a+z * p+(b+y * p) * x:=by
 have:l * p+d * (p * β)=(x * y+z+c) * p:=by rw [← e];grind
 grind
theorem info_u64:(Tryz.prog.info? 31).map (fun i=>(i.zero,i.size,i.bytes))=some (some (vU 0),1,8):=by kernel_rfl
def NatV (w:World) (v:Value) (X:Nat):Prop:=∃ ao n c b o f,v=.slice ao n c∧Sl w ao n c b o f∧Top f n∧V f n=X∧n≤128
theorem NatV.below {w w':World}{v:Value}{X:Nat}(h:NatV w v X) (hb:Bl w w'):NatV w' v X:=by
 obtain ⟨ao,n,c,b,o,f,e,S,r⟩:=h
 exact ⟨ao,n,c,b,o,f,e,S.below hb,r⟩
theorem split_gen2 {u t v p q:Nat}:u+t * p+v * (p * q)=u+(t+v * q) * p:=by grind
theorem mult_gen {a b x p s t v q u:Nat}(h:t+v * q=s+b * x) (e:u+s * p=a * b):u+(t+v * q) * p=(a+x * p) * b:=by
 rw [h];grind
def dV (K:IntKind) (F:Nat → Nat) (k:Nat):List Value:=(List.range k).map fun i=>Value.int K (F i:Int)
theorem dV_succ (K:IntKind) (F:Nat → Nat) (k:Nat):dV K F (k+1)=dV K F k ++ [Value.int K (F k:Int)]:=by
 unfold dV;rw [List.range_succ,List.map_append];rfl
theorem dV_congr {K:IntKind}{F G:Nat → Nat}{k:Nat}(h:∀ i,i<k → F i=G i):dV K F k=dV K G k:=by
 unfold dV
 exact List.map_congr_left fun i hi=>by rw [h i (List.mem_range.1 hi)]
theorem dV_get {K:IntKind}{F:Nat → Nat}{k i:Nat}(h:i<k):(dV K F k)[i]?=some (.int K (F i:Int)):=by
 unfold dV;rw [List.getElem?_map,List.getElem?_range h];rfl
theorem own_cells {w:World}{base:Nat}{e:TypeId}{v:Value}{k:Nat}{K:IntKind}{F:Nat → Nat}(h:w.ownsRow base e 1 v k (dV K F k)) :
 ∃ ao c b,v=.slice ao k c∧k≤c∧c≤maxLen∧(0<k → ao=some ⟨b,0,none⟩∧b<w.heap.size∧base≤b)∧∀ i,i<k → w.cell? ⟨b,0+i,none⟩=some (.int K (F i:Int)):=by
 rcases h.2 with ⟨rfl,rfl⟩ | ⟨g,cap,cur,rfl,hbg,hheap,hle,hmx,hcs,htk⟩
 · exact ⟨none,0,0,rfl,Nat.le_refl _,Nat.zero_le _,fun h=>absurd h (by omega),fun i h=>absurd h (by omega)⟩
 · rw [Nat.mul_one] at hcs htk
   refine ⟨_,cap,g,rfl,hle,hmx,fun _=>⟨rfl,(Array.getElem?_eq_some_iff.1 hheap).1,hbg⟩,fun i hi=>?_⟩
   have q:(cur.toList.take k)[i]?=some (.int K (F i:Int)):=by rw [htk];exact dV_get hi
   rw [List.getElem?_take_of_lt hi] at q
   have q3:cur[i]?=some (.int K (F i:Int)):=by simpa using q
   rw [Nat.zero_add]
   simp [World.cell?,hheap,q3]
namespace Big
structure Sl (w:World) (ao:Option Addr) (n c:Nat) (b o:Nat) (f:Nat → Nat):Prop where
 le:n≤c
 cap:c≤maxLen
 addr:0<n → ao=some ⟨b,o,none⟩
 blk:0<n → b<w.heap.size
 cell:∀ i,i<n → w.cell? ⟨b,o+i,none⟩=some (.int .u32 (f i:Int))
 ws:Ws f
theorem Sl.below {w w':World}{ao:Option Addr}{n c b o:Nat}{f:Nat → Nat}(S:Sl w ao n c b o f) (hb:Bl w w'):Sl w' ao n c b o f :=
 ⟨S.le,S.cap,S.addr,fun h=>Nat.lt_of_lt_of_le (S.blk h) hb.size,fun i hi=>(hb.cell (p:=⟨b,o+i,none⟩) (S.blk (by omega))).trans (S.cell i hi),S.ws⟩
theorem Sl.shorter {w:World}{ao:Option Addr}{n c b o m:Nat}{f:Nat → Nat}(S:Sl w ao n c b o f) (h:m≤n):Sl w ao m c b o f :=
 ⟨Nat.le_trans h S.le,S.cap,fun q=>S.addr (by omega),fun q=>S.blk (by omega),fun i hi=>S.cell i (by omega),S.ws⟩
theorem own_sl {w:World}{base:Nat}{e:TypeId}{v:Value}{k:Nat}{F:Nat → Nat}(h:w.ownsRow base e 1 v k (dV .u32 F k)) (hF:Ws F) :
 ∃ ao c b,v=.slice ao k c∧Sl w ao k c b 0 F∧(0<k → base≤b):=by
 obtain ⟨ao,c,b,rfl,h1,h2,h3,h4⟩:=own_cells h
 exact ⟨ao,c,b,rfl,⟨h1,h2,fun q=>(h3 q).1,fun q=>(h3 q).2.1,h4,hF⟩,fun q=>(h3 q).2.2⟩
def NatV (w:World) (v:Value) (X:Nat):Prop:=∃ ao n c b o f,v=.slice ao n c∧Sl w ao n c b o f∧Top f n∧V f n=X
theorem NatV.below {w w':World}{v:Value}{X:Nat}(h:NatV w v X) (hb:Bl w w'):NatV w' v X:=by
 obtain ⟨ao,n,c,b,o,f,e,S,r⟩:=h
 exact ⟨ao,n,c,b,o,f,e,S.below hb,r⟩
theorem Sl.trimmed {w:World}{ao:Option Addr}{n c b o:Nat}{f:Nat → Nat}(S:Sl w ao n c b o f):NatV w (.slice ao (tl f n) c) (V f n) :=
 ⟨_,_,_,_,_,f,rfl,S.shorter (tl_le f n),tl_top f n,tl_V f n⟩
def NewV (w:World) (base:Nat) (v:Value) (X:Nat):Prop:=∃ ao n c b o f,v=.slice ao n c∧Sl w ao n c b o f∧Top f n∧V f n=X∧(0<n → base≤b)
theorem NewV.nat {w:World}{base:Nat}{v:Value}{X:Nat}(h:NewV w base v X):NatV w v X:=by
 obtain ⟨ao,n,c,b,o,f,e,S,t,r,_⟩:=h
 exact ⟨ao,n,c,b,o,f,e,S,t,r⟩
theorem newv_nil (w:World) (base:Nat):NewV w base (.slice none 0 0) 0 :=
 ⟨none,0,0,0,0,fun _=>0,rfl,⟨Nat.le_refl _,Nat.zero_le _,fun h=>absurd h (by omega),fun h=>absurd h (by omega),fun i h=>absurd h (by omega),fun _=>B_pos⟩,Or.inl rfl,rfl,fun h=>absurd h (by omega)⟩
theorem Sl.trimmedN {w:World}{ao:Option Addr}{n c b o base:Nat}{f:Nat → Nat}(S:Sl w ao n c b o f) (h:0<n → base≤b):NewV w base (.slice ao (tl f n) c) (V f n) :=
 ⟨_,_,_,_,_,f,rfl,S.shorter (tl_le f n),tl_top f n,tl_V f n,fun q=>h (by have:=tl_le f n;omega)⟩
theorem und_big:Tryz.prog.underlying 90=some (.slice 146):=by kernel_rfl
theorem info_u32:(Tryz.prog.info? 146).map (fun i=>(i.zero,i.size,i.bytes))=some (some (.int .u32 0),1,4):=by kernel_rfl
theorem trim_any {w : World} {ao : Option Addr} {n c b o : Nat} {f : Nat → Nat} (S : Sl w ao n c b o f) :
    Calls Tryz.prog 83 #[.slice ao n c] w fun e w' => e = .returned (.slice ao (tl f n) c) ∧ w' = w := by
  have hn : n ≤ maxLen := Nat.le_trans S.le S.cap
  have hnc := S.le
  have hcm := S.cap
  unfold maxLen at hn hcm
  have HS : Hid (Sl w ao n c b o f) := S
  clear S
  go_enter Tryz.func83, Tryz.ntmps83
  go_wp2
  go_loop [3] (fun i => ∃ k : Nat, i = .int .i64 k ∧ k ≤ n ∧ tl f n = tl f k) (fun i => (intOf i).toNat)
  case atStart => exact ⟨n, rfl, Nat.le_refl _, rfl⟩
  case round =>
    obtain ⟨k, rfl, hk, htl⟩ := hrel
    have HT : Hid (tl f n = tl f k) := htl
    clear htl
    by_cases c1 : 0 < k
    · obtain rfl := HS.out.addr (by omega)
      have hc := HS.out.cell (k - 1) (by omega)
      by_cases c3 : f (k - 1) = 0
      · rw [c3] at hc
        have HT2 : Hid (tl f n = tl f (k - 1)) := by
          have a := tl_zero (f := f) (n := k - 1) c3
          rw [show k - 1 + 1 = k by omega] at a
          exact HT.out.trans a
        clear c3
        go_wp2
        go_round
        case rel => exact ⟨k - 1, by go_num, by omega, HT2.out⟩
        case measure => simp [intOf]; omega
      · have c3' : (((f (k - 1) : Nat) : Int) == 0) = false := beq_eq_false_iff_ne.mpr (by omega)
        have HT2 : Hid (tl f n = k) := by
          have a := tl_stop (f := f) (n := k - 1) c3
          rw [show k - 1 + 1 = k by omega] at a
          exact HT.out.trans a
        clear c3
        go_wp2
        go_ret
        exact ⟨by rw [HT2.out]; rfl, rfl⟩
    · obtain rfl : k = 0 := by omega
      have HT2 : Hid (tl f n = 0) := HT.out
      clear HT c1
      cases ao with
      | none =>
        go_wp2
        go_ret
        exact ⟨by rw [HT2.out]; rfl, rfl⟩
      | some a =>
        go_wp2
        go_ret
        exact ⟨by rw [HT2.out]; rfl, rfl⟩
end Big
theorem B_pow (q:Nat):B ^ q=2 ^ (64 * q):=by
 rw [Nat.pow_mul];rfl
theorem B_part {p:Nat}(hp:p≤64):2 ^ (64 - p) * 2 ^ p=B:=by rw [← Nat.pow_add,show 64 - p+p=64 by omega];rfl
theorem up_room {x z p:Nat}(hp:p≤64) (hz:z<2 ^ p):x * 2 ^ p % B+z<B:=by
 have e:x * 2 ^ p % B=2 ^ p * (x % 2 ^ (64 - p)):=by rw [← B_part hp,Nat.mul_mod_mul_right,Nat.mul_comm]
 have q:x % 2 ^ (64 - p)+1≤2 ^ (64 - p):=Nat.mod_lt _ (Nat.pow_pos (by omega))
 have r:=Nat.mul_le_mul_left (2 ^ p) q
 rw [Nat.mul_add,Nat.mul_comm (2 ^ p) (2 ^ (64 - p)),B_part hp] at r
 omega
theorem up_lo {x z p:Nat}(hp:p≤64) (hz:z<2 ^ p):bits .or .u64 (z:Int) (IntKind.u64.wrap ((x:Int) * 2 ^ p))=((x * 2 ^ p % B+z:Nat):Int):=by
 have hzB:z<18446744073709551616:=Nat.lt_of_lt_of_le hz (by have:(2:Nat) ^ p≤2 ^ 64:=Nat.pow_le_pow_right (by omega) hp;exact this)
 have e:IntKind.u64.wrap ((x:Int) * 2 ^ p)=((x * 2 ^ p % 18446744073709551616:Nat):Int):=by
  rw [IntKind.wrap_u64,pow_cast,← Int.natCast_mul];rfl
 have o:=shl_or x z p (by omega) hz
 have r:=up_room (x:=x) hp hz
 rw [e,bits_or_u64_nat z _ hzB (Nat.mod_lt _ (by omega)),Nat.or_comm,o]
 unfold B at *
 congr 1
 generalize x * 2 ^ p=y at *
 omega
theorem Row.alloc {w:World}{g N:Nat}{F:Nat → Nat}(R:Row w g N F) (o:Obj):Row (w.alloc o) g N F:=⟨R.row.alloc o,R.ws⟩
theorem natv_nil (w:World):NatV w (.slice none 0 0) 0 :=
 ⟨none,0,0,0,0,fun _=>0,rfl,⟨Nat.le_refl _,Nat.zero_le _,fun h=>absurd h (by omega),fun h=>absurd h (by omega),fun i h=>absurd h (by omega),fun _=>B_pos⟩,Or.inl rfl,rfl,by omega⟩
theorem lo32 (x:Nat):IntKind.u32.wrap (x:Int)=((x % Big.B:Nat):Int):=by
 rw [IntKind.wrap_u32];unfold Big.B;omega
theorem hi32 {x:Nat}(h:x<B):IntKind.u32.wrap ((x:Int) / 4294967296)=((x / Big.B:Nat):Int):=by
 rw [IntKind.wrap_u32];unfold Big.B;unfold B at h;omega
theorem dV_put (K:IntKind) (F:Nat → Nat) (k r:Nat):dV K (Big.put F k r) (k+1)=dV K F k ++ [.int K (r:Int)]:=by
 rw [dV_succ,Big.put_at,dV_congr (G:=F) (fun i hi=>Big.put_ne (by omega))]
theorem V_putB (F:Nat → Nat) (k r:Nat):Big.V (Big.put F k r) (k+1)=Big.V F k+r * Big.B ^ k:=by
 rw [Big.V_succ,Big.put_at,Big.V_put_low (Nat.le_refl _)]
def Fits (L X:Nat):Prop:=∃ k,k≤L∧X<Big.B ^ k
theorem Fits.up {L M X:Nat}(h:Fits L X) (hl:L≤M):Fits M X:=by
 obtain ⟨k,a,b⟩:=h
 exact ⟨k,Nat.le_trans a hl,b⟩
theorem Fits.le {L X Y:Nat}(h:Fits L X) (hl:Y≤X):Fits L Y:=by
 obtain ⟨k,a,b⟩:=h
 exact ⟨k,a,Nat.lt_of_le_of_lt hl b⟩
theorem Fits.lt {L X:Nat}(h:Fits L X):X<Big.B ^ L:=by
 obtain ⟨k,a,b⟩:=h
 exact Nat.lt_of_lt_of_le b (Nat.pow_le_pow_right Big.B_pos a)
theorem Fits.mul {L M X Y:Nat}(h:Fits L X) (k:Fits M Y):Fits (L+M) (X * Y):=by
 refine ⟨L+M,Nat.le_refl _,?_⟩
 rw [Nat.pow_add]
 exact Nat.mul_lt_mul'' h.lt k.lt
theorem Fits.word {n X:Nat}(h:X<B ^ n):Fits (2 * n) X:=⟨2 * n,Nat.le_refl _,by rw [← BB_pow];exact h⟩
theorem big_len {f:Nat → Nat}{n L:Nat}(t:Big.Top f n) (h:Fits L (Big.V f n)):n≤L:=Big.len_le t h.lt
theorem pair_or {x y:Nat}(hx:x<Big.B) (hy:y<Big.B):bits .or .u64 (x:Int) ((y:Int) * 4294967296)=((x+y * Big.B:Nat):Int):=by
 have e:=up_lo (x:=y) (z:=x) (p:=32) (by omega) hx
 have w:IntKind.u64.wrap ((y:Int) * 2 ^ 32)=(y:Int) * 4294967296:=by
  rw [IntKind.wrap_u64];unfold Big.B at hy;omega
 rw [w] at e
 rw [e]
 unfold Big.B B at *
 omega
theorem D_two:Big.B=2 ^ 32:=by decide
theorem D_pow (k:Nat):Big.B ^ k=2 ^ (32 * k):=by rw [Nat.pow_mul,D_two]
def bl (X:Nat):Nat:=if X=0 then 0 else Nat.log2 X+1
theorem bl_of {X L:Nat}(h1:2 ^ L≤X) (h2:X<2 ^ (L+1)):bl X=L+1:=by
 have hp:0<2 ^ L:=Nat.pow_pos (by omega)
 have h0:X ≠ 0:=by omega
 unfold bl
 rw [if_neg h0,(Nat.log2_eq_iff h0).2 ⟨h1,h2⟩]
theorem bl_lt (X:Nat):X<2 ^ bl X:=by
 unfold bl
 split
 · rename_i h;rw [h];decide
 · exact Nat.lt_log2_self
theorem bl_le {X:Nat}(h:X ≠ 0):2 ^ (bl X - 1)≤X:=by
 unfold bl
 rw [if_neg h,Nat.add_sub_cancel]
 exact Nat.log2_self_le h
theorem bl_pos {X:Nat}(h:X ≠ 0):0<bl X:=by unfold bl;rw [if_neg h];omega
theorem bl_zero:bl 0=0:=rfl
theorem bl_mono_le {X L:Nat}(h:X<2 ^ L):bl X≤L:=by
 by_cases z:X=0
 · subst z;rw [bl_zero];omega
 · rcases Nat.lt_or_ge L (bl X) with q | q
   · have a:=bl_le z
     have b:2 ^ L≤2 ^ (bl X - 1):=Nat.pow_le_pow_right (by omega) (by omega)
     omega
   · exact q
theorem two_fits {s k:Nat}(h:s<32 * k):Fits k (2 ^ s):=by
 refine ⟨k,Nat.le_refl _,?_⟩
 rw [D_pow]
 exact Nat.pow_lt_pow_right (by omega) h
theorem made_dV (q:Nat):(madeCells #[.int .u32 0] q).toList=dV .u32 (fun _=>0) q:=by
 apply List.ext_getElem?
 intro i
 by_cases h:i<q
 · rw [dV_get h];simp [madeCells,h,Nat.mod_one]
 · simp [madeCells,dV,h]
theorem up_or {x z p:Nat}(hx:x<Big.B) (hp:p<32) (hz:z<2 ^ p):bits .or .u64 (z:Int) (IntKind.u64.wrap ((x:Int) * 2 ^ p))=((x * 2 ^ p+z:Nat):Int)∧x * 2 ^ p+z<B:=by
 have e:=up_lo (x:=x) (z:=z) (p:=p) (by omega) hz
 have h1:x * 2 ^ p+z<B:=by
  have a:(x+1) * 2 ^ p≤Big.B * 2 ^ p:=Nat.mul_le_mul_right _ hx
  have b:Big.B * 2 ^ p≤Big.B * Big.B:=Nat.mul_le_mul_left _ (by rw [D_two];exact Nat.pow_le_pow_right (by omega) (by omega))
  rw [← BB] at b
  rw [Nat.add_mul,Nat.one_mul] at a
  omega
 rw [Nat.mod_eq_of_lt (by omega)] at e
 exact ⟨e,h1⟩
theorem upB_gen {v z P a x t s d r q:Nat}(hv:v+z * P=a * s) (e:d * q+r=x * t+z):v+r * P+q * (P * d)=a * s+x * (t * P):=by
 have h:r * P+q * (P * d)=(d * q+r) * P:=by grind
 rw [e] at h
 grind
theorem up_big {w:World}{ao:Option Addr}{n c b o:Nat}{f:Nat → Nat}(S:Big.Sl w ao n c b o f) (h0:0<n) (hn:n≤1000) (s q p:Nat) (hsq:s=32 * q+p) (hp:p<32) (hq:q≤1000) :
 Calls Tryz.prog 86 #[.slice ao n c,vI (s:Int)] w fun e w'=>∃ v,e=.returned v∧Big.NewV w' w.heap.size v (Big.V f n * 2 ^ s)∧Bl w w':=by
 obtain ⟨i0,hi,hz0,hz1,hz2⟩:=info_parts Big.info_u32
 have hmk:=run_make_row' (P:=Tryz.prog) 90 146 (.int .u32 0) 4 Big.und_big Big.info_u32 rfl .i64 .i64 q (by omega) (by omega)
 have HS:Hid (Big.Sl w ao n c b o f):=S
 obtain rfl:=S.addr h0
 have hz:((n:Int) == 0)=false:=beq_eq_false_iff_ne.mpr (by omega)
 have d1:(s:Int) / 32=(q:Int):=by omega
 have d2:(s:Int) % 32=(p:Int):=by omega
 have d3:(s:Int).tdiv 32=(q:Int):=by rw [Int.tdiv_eq_ediv_of_nonneg (by omega)];exact d1
 have d4:(s:Int).tmod 32=(p:Int):=by rw [Int.tmod_eq_emod_of_nonneg (by omega)];exact d2
 have hs:s≤33000:=by omega
 have HQ:Hid (s=32 * q+p):=hsq
 clear S hsq
 go_enter Tryz.func86,Tryz.ntmps86
 go_wp2
 go_loopw [5,6,7] (fun v cy i wr=>∃ (k z:Nat) (F:Nat → Nat),cy=vU (z:Int)∧i=vI (k:Int)∧k≤n∧Hid (z<2 ^ p)∧z<4294967296∧Big.Ws F∧wr.ownsRow w.heap.size 146 1 v (q+k) (dV .u32 F (q+k))∧Bl w wr∧Hid (Big.V F (q+k)+z * Big.B ^ (q+k)=Big.V f k * 2 ^ s)) (fun _ _ i _=>n - (intOf i).toNat)
 case atStart =>
  refine ⟨0,0,fun _=>0,rfl,rfl,Nat.zero_le _,(Nat.pow_pos (by omega):0<2 ^ p),by omega,fun _=>Big.B_pos,?_,bz _ _,?_⟩
  · have q1:=World.ownsRow_lit (base:=w.heap.size) (e:=146) (size:=1) w (madeCells #[.int .u32 0] q) q (Nat.le_refl _) (by unfold maxLen;omega) (by simp [madeCells])
    rw [made_dV] at q1
    exact q1
  · show Big.V (fun _=>0) (q+0)+0 * _=Big.V f 0 * _
    rw [Big.V_nought,Big.V_zero];omega
 case round =>
  obtain ⟨k,z,F,rfl,rfl,hk,HZ,hz2',hF,hown,hbl,HV⟩:=hrel
  have hsz:=hbl.size
  by_cases c1:k<n
  · have hc:=(HS.out.below hbl).cell k c1
    have hxB:=HS.out.ws k
    obtain ⟨o1,o2⟩:=up_or hxB hp HZ.out
    unfold Big.B at hxB
    have dm:=Nat.div_add_mod (f k * 2 ^ p+z) Big.B
    have HST:Hid (Big.V F (q+k)+(f k * 2 ^ p+z) % Big.B * Big.B ^ (q+k)+(f k * 2 ^ p+z) / Big.B * (Big.B ^ (q+k) * Big.B)=Big.V f (k+1) * 2 ^ s):=by
     show _=_
     have g:=upB_gen (P:=Big.B ^ (q+k)) HV.out dm
     rw [g,Big.V_succ,Nat.add_mul,HQ.out,D_pow,D_pow]
     congr 1
     rw [Nat.mul_assoc (f k),← Nat.pow_add,← Nat.pow_add]
     congr 2
     omega
    have hqz:Hid ((f k * 2 ^ p+z) / Big.B<2 ^ p):=by
     show _<_
     rw [Nat.div_lt_iff_lt_mul Big.B_pos]
     have a:(f k+1) * 2 ^ p≤Big.B * 2 ^ p:=Nat.mul_le_mul_right _ (HS.out.ws k)
     rw [Nat.add_mul,Nat.one_mul] at a
     have:=HZ.out
     rw [Nat.mul_comm (2 ^ p) Big.B]
     omega
    have hq4:(f k * 2 ^ p+z) / Big.B<4294967296:=half_lt o2
    have hr:(f k * 2 ^ p+z) % Big.B<Big.B:=Nat.mod_lt _ Big.B_pos
    have e1:=lo32 (f k * 2 ^ p+z)
    have e2:((f k * 2 ^ p+z:Nat):Int) / 4294967296=(((f k * 2 ^ p+z) / Big.B:Nat):Int):=by unfold Big.B;omega
    generalize (f k * 2 ^ p+z) % Big.B=r at *
    generalize (f k * 2 ^ p+z) / Big.B=q2 at *
    generalize f k * 2 ^ p+z=y at *
    clear dm
    unfold B at o2
    go_wp2_with (first
     | (at_builtin;refine wpList_append_own _ rfl _ _ 90 rfl w.heap.size 146 i0 (.int .u32 0) 1 4 Big.und_big hi hz0 hz1 hz2 rfl (by decide) _ _ _ rfl (hown.alloc _) ⟨wr.heap.size,0,none⟩ 1 1 [.int .u32 (r:Int)] rfl rfl (World.news_of_block (cs:=#[.int .u32 (r:Int)]) (t:=146) (fr:=(0,0)) (heap_alloc_new wr _)) (by simp [Value.oneCell']) (by unfold maxLen;omega) (by omega) (by rw [World.size_alloc];omega) ?_)
     | go_in)
    intro v' w3 hown' hgrow hnil
    have hb3:Bl w w3:=(hbl.alloc (by omega) _).grown hgrow (by rw [World.size_alloc];omega) (fun q hq=>(hown.lt q hq).1)
    have HO3:Hid (w3.ownsRow w.heap.size 146 1 v' (q+(k+1)) (dV .u32 (Big.put F (q+k) r) (q+(k+1)))∧Bl w w3):=⟨by rw [← Nat.add_assoc,dV_put];exact hown',hb3⟩
    clear hown' hb3 hgrow hnil hown hbl
    go_wp2
    go_roundw
    case rel =>
     refine ⟨k+1,q2,Big.put F (q+k) r,rfl,by go_num,by omega,hqz,hq4,Big.put_Ws hF hr,HO3.out.1,HO3.out.2,?_⟩
     show _=_
     rw [← Nat.add_assoc,V_putB,Nat.pow_succ]
     exact HST.out
    case measure=>simp [intOf];omega
  · obtain rfl:k=n:=by omega
    have e1:IntKind.u32.wrap (z:Int)=(z:Int):=by rw [IntKind.wrap_u32];omega
    have HE:Hid (Big.V (Big.put F (q+k) z) (q+k+1)=Big.V f k * 2 ^ s):=by
     show _=_
     rw [V_putB,HV.out]
    have hw:Big.Ws (Big.put F (q+k) z):=Big.put_Ws hF (by unfold Big.B;omega)
    go_wp2_with (first
     | (at_builtin;refine wpList_append_own _ rfl _ _ 90 rfl w.heap.size 146 i0 (.int .u32 0) 1 4 Big.und_big hi hz0 hz1 hz2 rfl (by decide) _ _ _ rfl (hown.alloc _) ⟨wr.heap.size,0,none⟩ 1 1 [.int .u32 (z:Int)] rfl rfl (World.news_of_block (cs:=#[.int .u32 (z:Int)]) (t:=146) (fr:=(0,0)) (heap_alloc_new wr _)) (by simp [Value.oneCell']) (by unfold maxLen;omega) (by omega) (by rw [World.size_alloc];omega) ?_)
     | go_in)
    intro v' w3 hown' hgrow hnil
    have hb3:Bl w w3:=(hbl.alloc (by omega) _).grown hgrow (by rw [World.size_alloc];omega) (fun q hq=>(hown.lt q hq).1)
    rw [← dV_put] at hown'
    obtain ⟨ao',c',b',rfl,S3,hnw⟩:=Big.own_sl hown' hw
    have T:=Big.trim_any S3
    have NV:=S3.trimmedN hnw
    clear hnw
    rw [HE.out] at NV
    clear hown' hgrow hnil hown hbl
    go_wp2_with fail
    refine T.mono ?_
    rintro e wa ⟨rfl,rfl⟩
    go_wp2
    go_ret
    exact ⟨_,rfl,NV,hb3⟩
theorem up_new {w:World}{va:Value}{X:Nat}(ha:Big.NatV w va X) (hX:Fits 1000 X) (s:Nat) (hs:s≤32000) :
 Calls Tryz.prog 86 #[va,vI (s:Int)] w fun e w'=>∃ v,e=.returned v∧Big.NewV w' w.heap.size v (X * 2 ^ s)∧Bl w w':=by
 obtain ⟨ao,n,c,b,o,f,rfl,S,t,rfl⟩:=ha
 have hn:=big_len t hX
 by_cases h0:n=0
 · subst h0
   rw [show Big.V f 0 * 2 ^ s=0 by rw [Big.V_zero,Nat.zero_mul]]
   clear S t hX
   go_enter Tryz.func86,Tryz.ntmps86
   go_wp2
   go_ret
   exact ⟨_,rfl,Big.newv_nil _ _,Below.refl _ _⟩
 · exact up_big S (by omega) hn s (s / 32) (s % 32) (by omega) (by omega) (by omega)
theorem up_any {w:World}{va:Value}{X:Nat}(ha:Big.NatV w va X) (hX:Fits 1000 X) (s:Nat) (hs:s≤32000) :
 Calls Tryz.prog 86 #[va,vI (s:Int)] w fun e w'=>∃ v,e=.returned v∧Big.NatV w' v (X * 2 ^ s)∧Bl w w' :=
 (up_new ha hX s hs).mono fun _ _ ⟨v,e,n,b⟩=>⟨v,e,n.nat,b⟩
structure Big.Row (w:World) (g N:Nat) (F:Nat → Nat):Prop where
 row:w.rowIs g 146 N (fun i=>.int .u32 (F i:Int))
 ws:Big.Ws F
theorem Big.Row.set {w:World}{g N:Nat}{F:Nat → Nat}(R:Big.Row w g N F) (i:Nat) {r:Nat}(hr:r<Big.B):Big.Row (w.setCell ⟨g,i,none⟩ (.int .u32 (r:Int))) g N (Big.put F i r):=by
 refine ⟨(R.row.set i (.int .u32 (r:Int))).congr fun j hj=>?_,Big.put_Ws R.ws hr⟩
 unfold Big.put
 by_cases c:j=i
 · rw [if_pos c,if_pos c]
 · rw [if_neg c,if_neg c]
theorem Big.Row.sl0 {w:World}{g N:Nat}{F:Nat → Nat}(R:Big.Row w g N F) (hN:N≤maxLen):Big.Sl w (some ⟨g,0,none⟩) N N g 0 F :=
 ⟨Nat.le_refl _,hN,fun _=>rfl,fun _=>R.row.lt,fun i hi=>by rw [Nat.zero_add];exact R.row.cell hi,R.ws⟩
theorem Big.made_row (w:World) (n:Nat):Big.Row (w.alloc (.cells (madeCells #[.int .u32 0] n) 146)) w.heap.size n (fun _=>0):=⟨World.rowIs_made _ _ _ _,fun _=>Big.B_pos⟩
theorem small_nat (x:Nat) (hx:x<B) (w:World) :
 Calls Tryz.prog 85 #[vU (x:Int)] w fun e w'=>∃ v,e=.returned v∧Big.NatV w' v x∧Bl w w':=by
 have e1:=lo32 x
 have e2:=hi32 hx
 have h1:x % Big.B<Big.B:=Nat.mod_lt _ Big.B_pos
 have h2:x / Big.B<Big.B:=half_lt hx
 have hS:∀ W:World,Big.Sl (W.alloc (.cells #[.int .u32 ((x % Big.B:Nat):Int),.int .u32 ((x / Big.B:Nat):Int)] 146)) (some ⟨W.heap.size,0,none⟩) 2 2 W.heap.size 0 (halves (fun _=>x)):=fun W =>
  ⟨Nat.le_refl _,by unfold maxLen;omega,fun _=>rfl,fun _=>by simp,fun i hi=>by
   rcases (by omega:i=0 ∨ i=1) with rfl | rfl
   · simp [halves]
   · simp [halves],halves_Ws (fun _=>hx)⟩
 have hV:Big.V (halves (fun _=>x)) 2=x:=by
  have:=halves_V (fun _=>x) 1
  rw [this,V_succ,V_zero,Nat.pow_zero];omega
 have HS:Hid (∀ W:World,Big.Sl (W.alloc (.cells #[.int .u32 ((x % Big.B:Nat):Int),.int .u32 ((x / Big.B:Nat):Int)] 146)) (some ⟨W.heap.size,0,none⟩) 2 2 W.heap.size 0 (halves (fun _=>x))):=hS
 have HV:Hid (Big.V (halves (fun _=>x)) 2=x):=hV
 clear hS hV
 generalize x % Big.B=lo at *
 generalize x / Big.B=hi at *
 have T:=Big.trim_any (HS.out w)
 have NV:=(HS.out w).trimmed
 rw [HV.out] at NV
 go_enter Tryz.func85,Tryz.ntmps85
 go_wp2_with fail
 refine T.mono ?_
 rintro e wa ⟨rfl,rfl⟩
 go_wp2
 go_ret
 exact ⟨_,rfl,NV,bz _ _⟩
def ch (d:Nat):Nat:=if d<10 then 48+d else 87+d
def chV (xs:List Nat):List Value:=xs.map fun d=>Value.int .u8 ((ch d:Nat):Int)
def lows (b x k:Nat):List Nat:=(List.range k).map fun j=>x / b ^ j % b
theorem lows_succ (b x k:Nat):lows b x (k+1)=lows b x k ++ [x / b ^ k % b]:=by unfold lows;rw [List.range_succ,List.map_append];rfl
theorem ch_at {r:Nat}(h:r<36):∀ hh,((⟨#[48,49,50,51,52,53,54,55,56,57,97,98,99,100,101,102,103,104,105,106,107,108,109,110,111,112,113,114,115,116,117,118,119,120,121,122]⟩:ByteArray)[r]'hh).toNat=ch r:=by
 have key:∀ r:Fin 36,((⟨#[48,49,50,51,52,53,54,55,56,57,97,98,99,100,101,102,103,104,105,106,107,108,109,110,111,112,113,114,115,116,117,118,119,120,121,122]⟩:ByteArray)[r.val]'r.isLt).toNat=ch r.val:=by decide
 intro hh
 exact key ⟨r,h⟩
theorem chV_append (xs ys:List Nat):chV (xs ++ ys)=chV xs ++ chV ys:=by unfold chV;rw [List.map_append]
theorem und_text:Tryz.prog.underlying 196=some (.slice 5):=by kernel_rfl
theorem info_u8:(Tryz.prog.info? 5).map (fun i=>(i.zero,i.size,i.bytes))=some (some (.int .u8 0),1,1):=by kernel_rfl
def rowText (b x k:Nat):ByteArray:=strOfNums ((List.range k).map fun i=>((ch (x / b ^ (k - 1 - i) % b):Nat):Int))
theorem few {X n r k b:Nat}(hb:2≤b) (hX:X<B ^ 128) (h:X / b ^ (r * k) ≠ 0) (hn:n=r * k):n≤8192:=by
 subst hn
 rcases Nat.lt_or_ge 8192 (r * k) with c | c
 · exfalso
   apply h
   apply Nat.div_eq_of_lt
   refine Nat.lt_of_lt_of_le hX ?_
   rw [B_pow]
   have c':64 * 128≤r * k:=by omega
   generalize 64 * 128=N at *
   exact Nat.le_trans (Nat.pow_le_pow_right (by omega) c') (Nat.pow_le_pow_left hb _)
 · exact c
theorem ch_lt {d:Nat}(h:d<36):ch d<256:=by unfold ch;split <;> omega
theorem rowText_size (b x k:Nat):(rowText b x k).size=k:=by unfold rowText;rw [strOfNums_size];simp
theorem und_byte8:Tryz.prog.underlying 5=some (.int .u8):=by kernel_rfl
theorem und_str9:Tryz.prog.underlying 9=some .string:=by kernel_rfl
theorem wrap_lo32 {t:Nat}(h:t<Big.B):IntKind.u32.wrap (t:Int)=(t:Int):=by rw [IntKind.wrap_u32];unfold Big.B at h;omega
theorem Big.Row.drew {w:World}{g N:Nat}{F:Nat → Nat}(R:Big.Row w g N F):Big.Row w.drew g N F:=⟨R.row.drew,R.ws⟩
theorem times_big {w:World}{ao:Option Addr}{n c ba oa:Nat}{f:Nat → Nat}(S:Big.Sl w ao n c ba oa f) {bo:Option Addr}{m cb bb ob:Nat}{g:Nat → Nat}(S':Big.Sl w bo m cb bb ob g) (hn:n≤1000) (hm:m≤1000) :
 Calls Tryz.prog 82 #[.slice ao n c,.slice bo m cb] w fun e w'=>∃ v,e=.returned v∧Big.NatV w' v (Big.V f n * Big.V g m)∧Bl w w':=by
 have hmk:=run_make_row' (P:=Tryz.prog) 90 146 (.int .u32 0) 4 Big.und_big Big.info_u32 rfl .i64 .i64 (n+m) (by omega) (by omega)
 simp only [Int.natCast_add] at hmk
 have HS:Hid (Big.Sl w ao n c ba oa f):=S
 have HS':Hid (Big.Sl w bo m cb bb ob g):=S'
 clear S S'
 go_enter Tryz.func82,Tryz.ntmps82
 go_wp2
 go_loopw [6] (fun i wr=>∃ (k:Nat) (F':Nat → Nat),i=vI (k:Int)∧k≤n∧Big.Row wr w.heap.size (n+m) F'∧Bl w wr∧(∀ j,k+m≤j → F' j=0)∧Big.V F' (k+m)=Big.V f k * Big.V g m) (fun i _=>n - (intOf i).toNat)
 case atStart=>exact ⟨0,fun _=>0,rfl,Nat.zero_le _,Big.made_row _ _,bz _ _,fun _ _=>rfl,by rw [Big.V_nought,Big.V_zero,Nat.zero_mul]⟩
 case round =>
  obtain ⟨k,F',rfl,hk,R',hbl,hz,hv⟩:=hrel
  have HZ:Hid (∀ j,k+m≤j → F' j=0):=hz
  have HV:Hid (Big.V F' (k+m)=Big.V f k * Big.V g m):=hv
  have HB:Hid (Bl w wr):=hbl
  have HR:Hid (Big.Row wr w.heap.size (n+m) F'):=R'
  clear hz hv
  by_cases c1:k<n
  · obtain rfl:=HS.out.addr (by omega)
    have hxB:=HS.out.ws k
    unfold Big.B at hxB
    clear hbl R'
    go_wp2
    go_loopw [7,8] (fun cy i w2=>∃ (j v:Nat) (F2:Nat → Nat),cy=vU (v:Int)∧i=vI (j:Int)∧j≤m∧v<4294967296∧Big.Row w2 w.heap.size (n+m) F2∧Bl w w2∧(∀ t,t<k ∨ k+j≤t → F2 t=F' t)∧Big.V (fun t=>F2 (k+t)) j+v * Big.B ^ j=Big.V (fun t=>F' (k+t)) j+Big.V g j * f k) (fun _ i _=>m - (intOf i).toNat)
    case atStart=>exact ⟨0,0,F',rfl,rfl,Nat.zero_le _,by omega,HR.out,HB.out,fun _ _=>rfl,by simp [Big.V]⟩
    case round =>
     obtain ⟨j,v,F2,rfl,rfl,hj,hv4,R2,hb2,hfr,hVV⟩:=hrel
     have HF:Hid (∀ t,t<k ∨ k+j≤t → F2 t=F' t):=hfr
     have HVV:Hid (Big.V (fun t=>F2 (k+t)) j+v * Big.B ^ j=Big.V (fun t=>F' (k+t)) j+Big.V g j * f k):=hVV
     have HR2:Hid (Big.Row wr w.heap.size (n+m) F2):=R2
     have HB2:Hid (Bl w wr):=hb2
     clear hfr hVV
     by_cases c2:j<m
     · obtain rfl:=HS'.out.addr (by omega)
       have ca:=(HS.out.below hb2).cell k c1
       have cb':=(HS'.out.below hb2).cell j c2
       have cz:=R2.row.cell (i:=k+j) (by omega)
       have fz:=R2.row.frozen (k+j)
       have hyB:=HS'.out.ws j
       have hzB:=R2.ws (k+j)
       unfold Big.B at hyB hzB
       have pm:((f k:Nat):Int) * ((g j:Nat):Int)=((f k * g j:Nat):Int):=by rw [Int.natCast_mul]
       have pl:f k * g j≤18446744065119617025:=Nat.mul_le_mul (show f k≤4294967295 by omega) (show g j≤4294967295 by omega)
       have dm:=Nat.div_add_mod (v+F2 (k+j)+f k * g j) Big.B
       have st:=times_step (β:=Big.B) (y:=g j) (z:=F2 (k+j)) (l:=(v+F2 (k+j)+f k * g j) % Big.B) (d:=(v+F2 (k+j)+f k * g j) / Big.B) HVV.out (by rw [Nat.mul_comm _ Big.B];omega)
       have hr:(v+F2 (k+j)+f k * g j) % Big.B<Big.B:=Nat.mod_lt _ Big.B_pos
       have hq:(v+F2 (k+j)+f k * g j) / Big.B<4294967296:=by unfold Big.B;omega
       have e1:IntKind.u32.wrap ((v:Int)+((F2 (k+j):Nat):Int)+((f k * g j:Nat):Int))=(((v+F2 (k+j)+f k * g j) % Big.B:Nat):Int):=by rw [IntKind.wrap_u32];unfold Big.B;omega
       have e2:((v:Int)+((F2 (k+j):Nat):Int)+((f k * g j:Nat):Int)) / 4294967296=(((v+F2 (k+j)+f k * g j) / Big.B:Nat):Int):=by unfold Big.B;omega
       have HFK:Hid (F2 (k+j)=F' (k+j)):=HF.out _ (Or.inr (by omega))
       have HST:=(show Hid _ from st)
       clear st dm R2 hb2
       generalize (v+F2 (k+j)+f k * g j) % Big.B=r at *
       generalize (v+F2 (k+j)+f k * g j) / Big.B=q at *
       generalize f k * g j=P at *
       have i1:(0:Int)≤(k:Int)+(j:Int):=by omega
       have i2:(k:Int)+(j:Int)<(n:Int)+(m:Int):=by omega
       have i3:(k:Int)<(n:Int):=by omega
       have i4:(j:Int)<(m:Int):=by omega
       have i5:IntKind.i64.wrap ((k:Int)+(j:Int))=(k:Int)+(j:Int):=by rw [IntWalk.i64_left,IntWalk.wrap64_in _ ⟨by omega,by omega⟩]
       have i6:((k:Int)+(j:Int)).toNat=k+j:=by omega
       have u1:IntKind.u64.wrap ((F2 (k+j):Nat):Int)=((F2 (k+j):Nat):Int):=by rw [IntKind.wrap_u64];omega
       have u2:IntKind.u64.wrap ((v:Int)+((F2 (k+j):Nat):Int))=(v:Int)+((F2 (k+j):Nat):Int):=by rw [IntKind.wrap_u64];omega
       have u3:IntKind.u64.wrap ((f k:Nat):Int)=((f k:Nat):Int):=by rw [IntKind.wrap_u64];omega
       have u4:IntKind.u64.wrap ((g j:Nat):Int)=((g j:Nat):Int):=by rw [IntKind.wrap_u64];omega
       have u5:IntKind.u64.wrap (P:Int)=(P:Int):=by rw [IntKind.wrap_u64];omega
       have u6:IntKind.u64.wrap ((v:Int)+((F2 (k+j):Nat):Int)+(P:Int))=(v:Int)+((F2 (k+j):Nat):Int)+(P:Int):=by rw [IntKind.wrap_u64];omega
       go_wp2
       go_region_held3 (fun w'=>w'.cell? ⟨w.heap.size,k+j,none⟩=some (.int .u32 ((F2 (k+j):Nat):Int))∧w'.cell? ⟨ba,oa+k,none⟩=some (.int .u32 ((f k:Nat):Int))∧w'.cell? ⟨bb,ob+j,none⟩=some (.int .u32 ((g j:Nat):Int))) (go_keep) (fail)
       go_wp2
       go_roundw
       case rel =>
        refine ⟨j+1,q,Big.put F2 (k+j) r,rfl,by go_num,by omega,hq,HR2.out.drew.set (k+j) hr,HB2.out.drew.setCell (Nat.le_refl _) _,?_,?_⟩
        · intro t ht
          rw [Big.put_ne (by omega)]
          exact HF.out t (by omega)
        · have e:Big.V (fun t=>Big.put F2 (k+j) r (k+t)) (j+1)=Big.V (fun t=>F2 (k+t)) j+r * Big.B ^ j:=by
           rw [Big.V_succ,Big.V_congr (f:=fun t=>Big.put F2 (k+j) r (k+t)) (g:=fun t=>F2 (k+t)) (fun i hi=>Big.put_ne (by omega)),Big.put_at]
          rw [e,Big.V_succ (fun t=>F' (k+t)),Big.V_succ g,Nat.pow_succ]
          have s:=HST.out
          rw [HFK.out] at s
          exact s
       case measure=>simp [intOf];omega
     · obtain rfl:j=m:=by omega
       have cz:=R2.row.cell (i:=k+j) (by omega)
       have fz:=R2.row.frozen (k+j)
       have e1:IntKind.u32.wrap (v:Int)=(v:Int):=by rw [IntKind.wrap_u32];omega
       have hvB:v<Big.B:=hv4
       clear R2 hb2
       go_wp2
       go_roundw
       case rel =>
        refine ⟨k+1,Big.put F2 (k+j) v,by go_num,by omega,HR2.out.set (k+j) hvB,HB2.out.setCell (Nat.le_refl _) _,?_,?_⟩
        · intro t ht
          rw [Big.put_ne (by omega),HF.out t (by omega)]
          exact HZ.out t (by omega)
        · have e1:Big.V (Big.put F2 (k+j) v) (k+1+j)=Big.V F2 (k+j)+v * Big.B ^ (k+j):=by
           rw [show k+1+j=k+j+1 by omega,Big.V_succ,Big.V_put_low (Nat.le_refl _),Big.put_at]
          have e2:=Big.V_split F2 k j
          have e3:=Big.V_split F' k j
          have e4:Big.V F2 k=Big.V F' k:=Big.V_congr fun i hi=>HF.out i (by omega)
          rw [e4] at e2
          rw [e1,e2,Big.V_succ f k,Nat.pow_add]
          have e5:=mult_gen (p:=Big.B ^ k) HVV.out (u:=Big.V F' k) (a:=Big.V f k) (by rw [← e3];exact HV.out)
          rw [← e5]
          exact split_gen2
       case measure=>simp [intOf];omega
  · obtain rfl:k=n:=by omega
    have T:=Big.trim_any (R'.sl0 (by unfold maxLen;omega))
    have NV:=(R'.sl0 (by unfold maxLen;omega)).trimmed
    rw [HV.out] at NV
    clear R'
    go_wp2_with fail
    refine T.mono ?_
    rintro e wa ⟨rfl,rfl⟩
    go_wp2
    go_ret
    exact ⟨_,rfl,NV,hbl⟩
theorem times_nat {w:World}{va vb:Value}{X Y:Nat}(ha:Big.NatV w va X) (hb:Big.NatV w vb Y) (hX:Fits 1000 X) (hY:Fits 1000 Y) :
 Calls Tryz.prog 82 #[va,vb] w fun e w'=>∃ v,e=.returned v∧Big.NatV w' v (X * Y)∧Bl w w':=by
 obtain ⟨ao,n,c,b,o,f,rfl,S,t,rfl⟩:=ha
 obtain ⟨bo,m,cb,bb,ob,g,rfl,S',t',rfl⟩:=hb
 exact times_big S S' (big_len t hX) (big_len t' hY)
theorem by_stepB {T x d:Nat}(hd:0<d):(T * Big.B+x) / d=T / d * Big.B+(T % d * Big.B+x) / d∧(T * Big.B+x) % d=(T % d * Big.B+x) % d:=by
 have e:T * Big.B+x=d * (T / d * Big.B)+(T % d * Big.B+x):=by
  have q:=Nat.div_add_mod T d
  have r:T * Big.B=d * (T / d * Big.B)+T % d * Big.B:=by
   rw [← Nat.mul_assoc,← Nat.add_mul,q]
  omega
 rw [e,Nat.mul_add_div hd,Nat.mul_add_mod]
 exact ⟨rfl,rfl⟩
theorem V_topB (f:Nat → Nat) (k n:Nat) (h:k<n):Big.V (fun i=>f (k+i)) (n - k)=Big.V (fun i=>f (k+1+i)) (n - (k+1)) * Big.B+f k:=by
 obtain ⟨m,e⟩:∃ m,n - k=1+m:=⟨n - k - 1,by omega⟩
 have s:=Big.V_split (fun i=>f (k+i)) 1 m
 rw [e,s,show n - (k+1)=m by omega,Nat.pow_one,Big.V_succ,Big.V_zero,Nat.pow_zero,Nat.mul_one,Nat.zero_add,Nat.add_zero,Nat.add_comm]
 congr 2
 exact Big.V_congr fun i _=>by show f (k+(1+i))=f (k+1+i);rw [Nat.add_assoc]
theorem pair_or2 {x y:Nat}(hx:x<Big.B) (hy:y<Big.B):bits .or .u64 ((y:Int) * 4294967296) (x:Int)=((y * Big.B+x:Nat):Int):=by
 have p:=pair_or hx hy
 have e:(y:Int) * 4294967296=((y * 4294967296:Nat):Int):=by rw [Int.natCast_mul];rfl
 have hy':y * 4294967296<18446744073709551616:=by unfold Big.B at hy;omega
 have hx':x<18446744073709551616:=by unfold Big.B at hx;omega
 rw [e] at p ⊢
 rw [bits_or_u64_nat _ _ hx' hy'] at p
 rw [bits_or_u64_nat _ _ hy' hx',Nat.or_comm,p,Nat.add_comm]
theorem by_fits {T x d:Nat}(hT:T<d) (hx:x<Big.B):(T * Big.B+x) / d<Big.B:=by
 rw [Nat.div_lt_iff_lt_mul (by omega),Nat.mul_comm Big.B d]
 have:=Nat.mul_le_mul_right Big.B (Nat.succ_le_of_lt hT)
 rw [Nat.succ_mul] at this
 omega
theorem byword_big {w:World}{ao:Option Addr}{n c b o:Nat}{f:Nat → Nat}(S:Big.Sl w ao n c b o f) (hn:n≤1000) (d:Nat) (hd:0<d) (hdB:d<Big.B) :
 Calls Tryz.prog 122 #[.slice ao n c,vU (d:Int)] w fun e w'=>∃ v,e=.returned (.tuple #[v,vU ((Big.V f n % d:Nat):Int)])∧Big.NewV w' w.heap.size v (Big.V f n / d)∧Bl w w':=by
 have hmk:=run_make_row' (P:=Tryz.prog) 90 146 (.int .u32 0) 4 Big.und_big Big.info_u32 rfl .i64 .i64 n (by omega) (by omega)
 have HS:Hid (Big.Sl w ao n c b o f):=S
 have HD:Hid (0<d∧d<Big.B):=⟨hd,hdB⟩
 have d0:((d:Int) == 0)=false:=beq_eq_false_iff_ne.mpr (by omega)
 have hd4:d<4294967296:=hdB
 obtain ⟨R,hR⟩:∃ R,R=Big.V f n % d:=⟨_,rfl⟩
 have HR:Hid (R=Big.V f n % d):=hR
 rw [← hR]
 clear S hdB hR
 go_enter Tryz.func122,Tryz.ntmps122
 go_wp2
 go_loopw [7,8] (fun r i wr=>∃ (k l:Nat) (F:Nat → Nat),r=vU (l:Int)∧i=vI ((k:Int) - 1)∧k≤n∧l<d∧Big.Row wr w.heap.size n F∧Bl w wr∧Hid (Big.V (fun i=>F (k+i)) (n - k)=Big.V (fun i=>f (k+i)) (n - k) / d∧l=Big.V (fun i=>f (k+i)) (n - k) % d)) (fun _ i _=>(intOf i+1).toNat)
 case atStart=>exact ⟨n,0,fun _=>0,rfl,rfl,Nat.le_refl _,hd,Big.made_row _ _,bz _ _,⟨by rw [Nat.sub_self,Big.V_zero,Big.V_zero,Nat.zero_div],by rw [Nat.sub_self,Big.V_zero,Nat.zero_mod]⟩⟩
 case round =>
  obtain ⟨k,l,F,rfl,rfl,hk,hl,RF,hbl,HV⟩:=hrel
  by_cases c1:0<k
  · obtain ⟨j,rfl⟩:∃ j,k=j+1:=⟨k - 1,by omega⟩
    have hj:j<n:=by omega
    obtain rfl:=HS.out.addr (by omega)
    have hc:=(HS.out.below hbl).cell j hj
    have cz:=RF.row.cell (i:=j) hj
    have fz:=RF.row.frozen j
    have hx:=HS.out.ws j
    have hor:=pair_or2 hx (Nat.lt_trans hl HD.out.2)
    have hfit:=by_fits hl hx
    obtain ⟨s1,s2⟩:=by_stepB (T:=Big.V (fun i=>f (j+1+i)) (n - (j+1))) (x:=f j) HD.out.1
    rw [← HV.out.2,← V_topB f j n hj] at s1 s2
    have hq:((l * Big.B+f j:Nat):Int) / (d:Int)=(((l * Big.B+f j) / d:Nat):Int):=by rw [Int.natCast_ediv]
    have hm:((l * Big.B+f j:Nat):Int) % (d:Int)=(((l * Big.B+f j) % d:Nat):Int):=by rw [Int.natCast_emod]
    have e1:=wrap_lo32 hfit
    have hml:(l * Big.B+f j) % d<d:=Nat.mod_lt _ HD.out.1
    have htot:l * Big.B+f j<18446744073709551616:=by
     have:=pair_lt hx (Nat.lt_trans hl HD.out.2)
     unfold B at this
     omega
    have HST:Hid (Big.V (fun i=>f (j+i)) (n - j) / d=Big.V (fun i=>f (j+1+i)) (n - (j+1)) / d * Big.B+(l * Big.B+f j) / d∧Big.V (fun i=>f (j+i)) (n - j) % d=(l * Big.B+f j) % d):=⟨s1,s2⟩
    have HRF:Hid (Big.Row wr w.heap.size n F∧Bl w wr):=⟨RF,hbl⟩
    have HFT:Hid ((l * Big.B+f j) / d<Big.B):=hfit
    have ij:((j+1:Nat):Int) - 1=(j:Int):=by omega
    simp only [Int.natCast_add,Int.natCast_one] at ij
    clear s1 s2 RF hbl hfit
    unfold Big.B at hx
    generalize (l * Big.B+f j) / d=q at *
    generalize (l * Big.B+f j) % d=m at *
    generalize l * Big.B+f j=y at *
    have hq4:q<4294967296:=HFT.out
    have e2:(q:Int) % 4294967296=(q:Int):=by omega
    have e3:IntKind.u64.wrap (q:Int)=(q:Int):=by rw [IntKind.wrap_u64];omega
    go_wp2
    go_roundw
    case rel =>
     refine ⟨j,m,Big.put F j q,by rw [hm],by go_num,by omega,hml,HRF.out.1.set j HFT.out,HRF.out.2.setCell (Nat.le_refl _) _,?_,HST.out.2.symm⟩
     rw [V_topB (Big.put F j q) j n hj,Big.put_at,HST.out.1,← HV.out.1]
     congr 2
     exact Big.V_congr fun i _=>Big.put_ne (by omega)
    case measure=>first | (simp [intOf];done) | (simp [intOf];omega)
  · obtain rfl:k=0:=by omega
    have T:=Big.trim_any (RF.sl0 (by unfold maxLen;omega))
    have NV:=(RF.sl0 (by unfold maxLen;omega)).trimmedN (base:=w.heap.size) (fun _=>Nat.le_refl _)
    have e0:(fun i=>F (0+i))=F:=funext fun i=>by rw [Nat.zero_add]
    have e1:(fun i=>f (0+i))=f:=funext fun i=>by rw [Nat.zero_add]
    have hv:=HV.out
    rw [e0,e1,Nat.sub_zero] at hv
    rw [hv.1] at NV
    have hl':l=R:=by rw [HR.out];exact hv.2
    subst hl'
    clear RF hv e0 e1
    go_wp2_with fail
    refine T.mono ?_
    rintro e wa ⟨rfl,rfl⟩
    go_wp2
    refine bodyPost_ret (v:=.tuple #[_,vU (l:Int)]) (by simp [results,Tryz.results122,go_sem]) rfl ⟨_,rfl,NV,hbl⟩
theorem own_below {w w':World}{base:Nat}{e:TypeId}{v:Value}{n:Nat}{xs:List Value}(h:w.ownsRow base e 1 v n xs) (hb:Bl w w'):w'.ownsRow base e 1 v n xs:=by
 refine ⟨h.1,?_⟩
 rcases h.2 with q | ⟨g,cap,cur,e1,e2,e3,r⟩
 · exact Or.inl q
 · exact Or.inr ⟨g,cap,cur,e1,e2,(hb.block g (Array.getElem?_eq_some_iff.1 e3).1).trans e3,r⟩
def QV (w:World) (tv v:Value) (Y:Nat):Prop:=∃ ao n c b o f,v=.slice ao n c∧Big.Sl w ao n c b o f∧Big.Top f n∧Big.V f n=Y∧(0<n → tv.ownBlock ≠ some b)
theorem Big.NewV.qv {w w0:World}{base':Nat}{e:TypeId}{tv v:Value}{n:Nat}{xs:List Value}{Y:Nat}(h:Big.NewV w w0.heap.size v Y) (ho:w0.ownsRow base' e 1 tv n xs):QV w tv v Y:=by
 obtain ⟨ao,n,c,b,o,f,e,S,t,r,a⟩:=h
 exact ⟨ao,n,c,b,o,f,e,S,t,r,fun q z=>by have:=a q;have:=(ho.lt b z).2;omega⟩
theorem QV.next {w w3:World}{tv v:Value}{Y:Nat}{ob:Obj}{gg n cap:Nat}(h:QV w tv v Y) (hg:(w.alloc ob).grownBy w3 tv.ownBlock) (hat:tv.ownBlock=some gg ∨ gg=w.heap.size+1):QV w3 (.slice (some ⟨gg,0,none⟩) n cap) v Y:=by
 obtain ⟨ao,n,c,b,o,f,e,S,t,r,a⟩:=h
 have S1:=S.below ((Below.refl _ _).alloc (Nat.le_refl _) ob)
 refine ⟨ao,n,c,b,o,f,e,⟨S.le,S.cap,S.addr,fun q=>Nat.lt_of_lt_of_le (S1.blk q) hg.size,fun i hi=>?_,S.ws⟩,t,r,fun q z=>?_⟩
 · rw [World.cell?_of_block (hg.block b (S1.blk (by omega)) (fun z=>a (by omega) z.symm))]
   exact S1.cell i hi
 · have z':gg=b:=by simpa [Value.ownBlock] using z
   subst z'
   rcases hat with y | y
   · exact a q y
   · have:=S.blk q;omega
theorem tell_digit {b X Y P k n t:Nat}(hP:P=b ^ k) (hY:Y=X / b ^ n) (ht:t<k):Y % P / b ^ t % b=X / b ^ (n+t) % b:=by
 rw [hP,hY,show b ^ k=b ^ t * b ^ (k - t) by rw [← Nat.pow_add,show t+(k - t)=k by omega],Nat.mod_mul_right_div_self,Nat.div_div_eq_div_mul,← Nat.pow_add]
 refine Nat.mod_mod_of_dvd _ ?_
 rw [show k - t=k - t - 1+1 by omega,Nat.pow_succ]
 exact Nat.dvd_mul_left _ _
theorem tell_more {b X Y P k n:Nat}(hP:P=b ^ k) (hY:Y=X / b ^ n):Y / P=X / b ^ (n+k):=by
 rw [hP,hY,Nat.div_div_eq_div_mul,← Nat.pow_add]
theorem tell_last {b X Y P k n t:Nat}(hb:2≤b) (hP:P=b ^ k) (hY:Y=X / b ^ n) (h0:Y ≠ 0) (hz:Y / P=0) (he:Y % P / b ^ t=0) (ht:t=0 ∨ Y / P ≠ 0 ∨ Y % P / b ^ (t - 1) ≠ 0):1≤n+t∧b ^ (n+t - 1)≤X∧X<b ^ (n+t):=by
 have hlt:Y<P:=by
  rcases Nat.lt_or_ge Y P with q | q
  · exact q
  · have hP0:0<P:=by rw [hP];exact Nat.pow_pos (by omega)
    have:=Nat.div_le_div_right (c:=P) q
    rw [Nat.div_self hP0] at this
    omega
 rw [Nat.mod_eq_of_lt hlt] at he ht
 have t1:1≤t:=by
  rcases Nat.eq_zero_or_pos t with q | q
  · rw [q,Nat.pow_zero,Nat.div_one] at he;exact absurd he h0
  · exact q
 have hne:Y / b ^ (t - 1) ≠ 0:=by
  rcases ht with q | q | q
  · omega
  · exact absurd hz q
  · exact q
 have p1:0<b ^ (n+t):=Nat.pow_pos (by omega)
 have p2:0<b ^ (n+(t - 1)):=Nat.pow_pos (by omega)
 rw [hY,Nat.div_div_eq_div_mul,← Nat.pow_add] at he hne
 refine ⟨by omega,?_,(Nat.div_eq_zero_iff_lt p1).mp he⟩
 rw [show n+t - 1=n+(t - 1) by omega]
 rcases Nat.lt_or_ge X (b ^ (n+(t - 1))) with q | q
 · exact absurd (Nat.div_eq_of_lt q) hne
 · exact q
theorem few2 {X n b:Nat}(hb:2≤b) (hX:X<B ^ 128) (h:X / b ^ n ≠ 0):n≤8192:=by
 have:=few (r:=n) (k:=1) hb hX (by rw [Nat.mul_one];exact h) rfl
 omega
theorem tell_any {w:World}{va:Value}{X:Nat}(ha:Big.NatV w va X) (hX0:X ≠ 0) (hXB:X<B ^ 128) (b:Nat) (h1:2≤b) (h2:b≤36) :
 Calls Tryz.prog 88 #[va,vI (b:Int)] w fun e w'=>∃ K,e=.returned (.string (rowText b X K))∧1≤K∧b ^ (K - 1)≤X∧X<b ^ K∧Bl w w':=by
 obtain ⟨i0,hi,hz0,hz1,hz2⟩:=info_parts info_u8
 have HX:Hid (X ≠ 0∧X<B ^ 128):=⟨hX0,hXB⟩
 have HA:Hid (Big.NatV w va X):=ha
 obtain ⟨a0,l0,c0,k0,o0,f0,rfl,S0,t0,hv0⟩:=ha
 have hl0:((l0:Int) == 0)=false:=beq_eq_false_iff_ne.mpr (by
  intro e
  have e':l0=0:=by omega
  subst e'
  exact hX0 hv0.symm)
 have u1:IntKind.u64.wrap (b:Int)=(b:Int):=by rw [IntKind.wrap_u64];omega
 clear hX0 hXB S0 t0 hv0
 go_enter Tryz.func88,Tryz.ntmps88
 go_wp2
 go_loop [5,6] (fun c p=>∃ k P:Nat,c=vI (k:Int)∧p=vU (P:Int)∧Hid (P=b ^ k)∧1≤k∧k≤32∧P<4294967296) (fun c _=>32 - (intOf c).toNat)
 case atStart=>exact ⟨1,b,rfl,rfl,by show b=b ^ 1;rw [Nat.pow_one],by omega,by omega,by omega⟩
 case round =>
  obtain ⟨k,P,rfl,rfl,HP,hk1,hk2,hP4⟩:=hrel
  have pm:(P:Int) * (b:Int)=((P * b:Nat):Int):=by rw [Int.natCast_mul]
  have pl:P * b≤4294967296 * 36:=Nat.mul_le_mul (by omega) h2
  have HQ:Hid (P * b=b ^ (k+1)):=by
   show _=_
   rw [Nat.pow_succ,HP.out]
  by_cases c0:P * b<4294967296
  · have hk3:k<32:=by
     rcases Nat.lt_or_ge k 32 with q | q
     · exact q
     · exfalso
       have a:2 ^ 32≤2 ^ (k+1):=Nat.pow_le_pow_right (by omega) (by omega)
       have c:2 ^ (k+1)≤b ^ (k+1):=Nat.pow_le_pow_left h1 _
       have:=HQ.out
       omega
    generalize P * b=Q at *
    have c0':(Q:Int)<4294967296:=by omega
    go_wp2
    go_round
    case rel=>exact ⟨k+1,Q,by go_num,rfl,HQ.out,by omega,by omega,c0⟩
    case measure=>simp [intOf];omega
  · have hP2:2≤P:=by
     rw [HP.out]
     have q:b ^ 1≤b ^ k:=Nat.pow_le_pow_right (by omega) hk1
     rw [Nat.pow_one] at q
     omega
    have c0':¬ ((P * b:Nat):Int)<4294967296:=by omega
    have hq2:P * b<18446744073709551616:=by omega
    generalize P * b=Q at *
    clear c0 HQ pl
    go_wp2
    clear pm
    go_loopg [0,7] X (fun gk a tv wr=>∃ (n:Nat),QV wr tv a gk∧wr.ownsRow w.heap.size 5 1 tv n (chV (lows b X n))∧Bl w wr∧n≤9000∧Hid ((gk ≠ 0∧gk=X / b ^ n) ∨ (gk=0∧1≤n∧b ^ (n - 1)≤X∧X<b ^ n)))
    case atStart =>
     obtain ⟨ao,n,c,bb,o,f,e,S,t,r⟩:=HA.out
     exact ⟨0,⟨ao,n,c,bb,o,f,e,S,t,r,fun _ z=>by cases z⟩,World.ownsRow_nil _ _ _ _,Below.refl _ _,by omega,Or.inl ⟨HX.out.1,by rw [Nat.pow_zero,Nat.div_one]⟩⟩
    case round =>
     obtain ⟨n,hqv,hown,hbl,hn9,HG⟩:=hrel
     have hqv2:=hqv
     obtain ⟨al,ll,cl,bl',ol,fl,rfl,Sl0,tl0,hvl,_⟩:=hqv2
     have hsz:=hbl.size
     by_cases c1:0<ll
     · have c1':(0:Int)<(ll:Int):=by omega
       have hg0:gk ≠ 0:=by
        have q:=Big.Top_ge tl0 c1
        have:=Big.Bp_pos (ll - 1)
        omega
       have hgx:gk=X / b ^ n:=by
        rcases HG.out with q | q
        · exact q.2
        · exact absurd q.1 hg0
       have hn8:n≤8192:=few2 h1 HX.out.2 (by rw [← hgx];exact hg0)
       have hlen:ll≤1000:=by
        have fx:Fits 256 gk:=(Fits.word (n:=128) HX.out.2).le (by rw [hgx];exact Nat.div_le_self _ _)
        exact Nat.le_trans (big_len tl0 (by rw [hvl];exact fx)) (by omega)
       have BW:=byword_big Sl0 hlen P (by omega) hP4
       rw [hvl] at BW
       have HGK:Hid (gk ≠ 0∧gk=X / b ^ n∧gk % P<P):=⟨hg0,hgx,Nat.mod_lt _ (by omega)⟩
       have HO:Hid (wr.ownsRow w.heap.size 5 1 u7 n (chV (lows b X n))∧Bl w wr):=⟨hown,hbl⟩
       obtain ⟨rm,hrm⟩:∃ rm,gk % P=rm:=⟨_,rfl⟩
       have HRM:Hid (gk % P=rm):=hrm
       have hrm4:rm<4294967296:=by have:=HGK.out.2.2;omega
       rw [hrm] at BW
       clear hg0 hgx hvl tl0 Sl0 hqv HG hown hbl hrm
       go_wp2_with fail
       refine BW.mono ?_
       rintro e w2 ⟨vq,rfl,nq,b2⟩
       have own2:=own_below HO.out.1 b2
       have qv2:=nq.qv HO.out.1
       have B2:Bl w w2:=HO.out.2.trans (b2.mono HO.out.2.size)
       obtain ⟨aq,lq,cq,bq,oq,fq,rfl,Sq,tq,hvq,apq⟩:=qv2
       have HLQ:Hid ((0<lq∧gk / P ≠ 0) ∨ (lq=0∧gk / P=0)):=by
        rcases Nat.eq_zero_or_pos lq with z | z
        · exact Or.inr ⟨z,by rw [← hvq,z];rfl⟩
        · refine Or.inl ⟨z,?_⟩
          have q:=Big.Top_ge tq z
          have:=Big.Bp_pos (lq - 1)
          omega
       have HQ2:Hid (QV w2 u7 (.slice aq lq cq) (gk / P)∧w2.ownsRow w.heap.size 5 1 u7 n (chV (lows b X n))∧Bl w w2):=⟨⟨aq,lq,cq,bq,oq,fq,rfl,Sq,tq,hvq,apq⟩,own2,B2⟩
       clear BW nq b2 own2 B2 Sq tq hvq apq HO
       go_wp2
       go_loopw [7,9,10] (fun tv r i w'=>∃ (t z:Nat),r=vU (z:Int)∧i=vI (t:Int)∧t≤k∧z<4294967296∧QV w' tv (.slice aq lq cq) (gk / P)∧w'.ownsRow w.heap.size 5 1 tv (n+t) (chV (lows b X (n+t)))∧Bl w w'∧Hid (z=gk % P / b ^ t∧(t=0 ∨ gk / P ≠ 0 ∨ gk % P / b ^ (t - 1) ≠ 0))) (fun _ _ i _=>k - (intOf i).toNat)
       case atStart=>exact ⟨0,rm,rfl,rfl,Nat.zero_le _,hrm4,HQ2.out.1,HQ2.out.2.1,HQ2.out.2.2,⟨by rw [Nat.pow_zero,Nat.div_one];exact HRM.out.symm,Or.inl rfl⟩⟩
       case round =>
        clear HQ2
        obtain ⟨t,z,rfl,rfl,ht,hz4,hqv,hown,hbl,HZ⟩:=hrel
        have hsz:=hbl.size
        by_cases c2:t<k
        · have c2':(t:Int)<(k:Int):=by omega
          rcases HLQ.out with ⟨q1,q2⟩ | ⟨q1,q2⟩
          · have q1':(0:Int)<(lq:Int):=by omega
            have hr36:z % b<36:=Nat.lt_of_lt_of_le (Nat.mod_lt _ (by omega)) h2
            have m1:(z:Int) % (b:Int)=((z % b:Nat):Int):=by rw [Int.natCast_emod]
            have m2:(z:Int) / (b:Int)=((z / b:Nat):Int):=by rw [Int.natCast_ediv]
            have hdz:z / b≤z:=Nat.div_le_self _ _
            have HS:Hid (z / b=gk % P / b ^ (t+1)∧z % b=X / b ^ (n+t) % b∧gk % P / b ^ t=z):=⟨by rw [HZ.out.1,Nat.div_div_eq_div_mul,Nat.pow_succ],by rw [HZ.out.1];exact tell_digit HP.out HGK.out.2.1 c2,HZ.out.1.symm⟩
            have hc:=ch_at hr36
            generalize z % b=r at *
            generalize z / b=zq at *
            obtain ⟨cr,hcr⟩:∃ c,ch r=c:=⟨_,rfl⟩
            rw [hcr] at hc
            have HC:Hid (ch r=cr):=hcr
            have hq0:(0:Int)≤(zq:Int):=by omega
            have e3:IntKind.u64.wrap (zq:Int)=(zq:Int):=by rw [IntKind.wrap_u64];omega
            have HQO:Hid (QV wr u7 (.slice aq lq cq) (gk / P)∧wr.ownsRow w.heap.size 5 1 u7 (n+t) (chV (lows b X (n+t)))∧Bl w wr):=⟨hqv,hown,hbl⟩
            clear hcr hqv
            go_wp2_with (first
             | (at_builtin;refine wpList_append_lies _ rfl _ _ 196 rfl w.heap.size 5 i0 (.int .u8 0) 1 1 und_text hi hz0 hz1 hz2 rfl (by decide) _ _ _ rfl (hown.alloc _) ⟨wr.heap.size,0,none⟩ 1 1 [.int .u8 (cr:Int)] rfl rfl (World.news_of_block (cs:=#[.int .u8 (cr:Int)]) (t:=5) (fr:=(0,0)) (heap_alloc_new wr _)) (by simp [Value.oneCell']) (by omega) (by unfold maxLen;omega) (by omega) (by rw [World.size_alloc];omega) (wr.heap.size+1) (by simp) ?_)
             | go_in)
            intro gg cap w3 hown' hgrow hat hlt
            have hb3:Bl w w3:=(hbl.alloc (by omega) _).grown hgrow (by rw [World.size_alloc];omega) (fun q hq=>(hown.lt q hq).1)
            have HO3:Hid (QV w3 (.slice (some ⟨gg,0,none⟩) (n+t+1) cap) (.slice aq lq cq) (gk / P)∧w3.ownsRow w.heap.size 5 1 (.slice (some ⟨gg,0,none⟩) (n+t+1) cap) (n+(t+1)) (chV (lows b X (n+(t+1))))∧Bl w w3):=by
             refine ⟨HQO.out.1.next hgrow hat,?_,hb3⟩
             rw [← Nat.add_assoc,lows_succ,chV_append,← HS.out.2.1]
             have e:chV [r]=[.int .u8 (cr:Int)]:=by unfold chV;rw [List.map_cons,HC.out];rfl
             rw [e]
             exact hown'
            clear hown' hb3 hgrow hat hlt hown hbl
            go_wp2
            go_roundw
            case rel=>exact ⟨t+1,zq,by first | rfl | (congr 1;rw [IntKind.wrap_u64];omega),by go_num,by omega,by omega,HO3.out.1,HO3.out.2.1,HO3.out.2.2,⟨HS.out.1,Or.inr (Or.inl q2)⟩⟩
            case measure=>simp [intOf];omega
          · subst q1
            by_cases c3:0<z
            · have c3':(0:Int)<(z:Int):=by omega
              have hr36:z % b<36:=Nat.lt_of_lt_of_le (Nat.mod_lt _ (by omega)) h2
              have m1:(z:Int) % (b:Int)=((z % b:Nat):Int):=by rw [Int.natCast_emod]
              have m2:(z:Int) / (b:Int)=((z / b:Nat):Int):=by rw [Int.natCast_ediv]
              have hdz:z / b≤z:=Nat.div_le_self _ _
              have HS:Hid (z / b=gk % P / b ^ (t+1)∧z % b=X / b ^ (n+t) % b∧gk % P / b ^ t=z):=⟨by rw [HZ.out.1,Nat.div_div_eq_div_mul,Nat.pow_succ],by rw [HZ.out.1];exact tell_digit HP.out HGK.out.2.1 c2,HZ.out.1.symm⟩
              have hc:=ch_at hr36
              generalize z % b=r at *
              generalize z / b=zq at *
              obtain ⟨cr,hcr⟩:∃ c,ch r=c:=⟨_,rfl⟩
              rw [hcr] at hc
              have HC:Hid (ch r=cr):=hcr
              have hq0:(0:Int)≤(zq:Int):=by omega
              have e3:IntKind.u64.wrap (zq:Int)=(zq:Int):=by rw [IntKind.wrap_u64];omega
              have HQO:Hid (QV wr u7 (.slice aq 0 cq) (gk / P)∧wr.ownsRow w.heap.size 5 1 u7 (n+t) (chV (lows b X (n+t)))∧Bl w wr):=⟨hqv,hown,hbl⟩
              clear hcr hqv
              go_wp2_with (first
               | (at_builtin;refine wpList_append_lies _ rfl _ _ 196 rfl w.heap.size 5 i0 (.int .u8 0) 1 1 und_text hi hz0 hz1 hz2 rfl (by decide) _ _ _ rfl (hown.alloc _) ⟨wr.heap.size,0,none⟩ 1 1 [.int .u8 (cr:Int)] rfl rfl (World.news_of_block (cs:=#[.int .u8 (cr:Int)]) (t:=5) (fr:=(0,0)) (heap_alloc_new wr _)) (by simp [Value.oneCell']) (by omega) (by unfold maxLen;omega) (by omega) (by rw [World.size_alloc];omega) (wr.heap.size+1) (by simp) ?_)
               | go_in)
              intro gg cap w3 hown' hgrow hat hlt
              have hb3:Bl w w3:=(hbl.alloc (by omega) _).grown hgrow (by rw [World.size_alloc];omega) (fun q hq=>(hown.lt q hq).1)
              have HO3:Hid (QV w3 (.slice (some ⟨gg,0,none⟩) (n+t+1) cap) (.slice aq 0 cq) (gk / P)∧w3.ownsRow w.heap.size 5 1 (.slice (some ⟨gg,0,none⟩) (n+t+1) cap) (n+(t+1)) (chV (lows b X (n+(t+1))))∧Bl w w3):=by
               refine ⟨HQO.out.1.next hgrow hat,?_,hb3⟩
               rw [← Nat.add_assoc,lows_succ,chV_append,← HS.out.2.1]
               have e:chV [r]=[.int .u8 (cr:Int)]:=by unfold chV;rw [List.map_cons,HC.out];rfl
               rw [e]
               exact hown'
              clear hown' hb3 hgrow hat hlt hown hbl
              go_wp2
              go_roundw
              case rel=>exact ⟨t+1,zq,by first | rfl | (congr 1;rw [IntKind.wrap_u64];omega),by go_num,by omega,by omega,HO3.out.1,HO3.out.2.1,HO3.out.2.2,⟨HS.out.1,Or.inr (Or.inr (by rw [Nat.add_sub_cancel,HS.out.2.2];omega))⟩⟩
              case measure=>simp [intOf];omega
            · obtain rfl:z=0:=by omega
              have HN:Hid ((gk / P ≠ 0∧gk / P=X / b ^ (n+t)) ∨ (gk / P=0∧1≤n+t∧b ^ (n+t - 1)≤X∧X<b ^ (n+t))):=Or.inr ⟨q2,tell_last h1 HP.out HGK.out.2.1 HGK.out.1 q2 HZ.out.1.symm HZ.out.2⟩
              have hlt:gk / P<gk:=Nat.div_lt_self (Nat.pos_of_ne_zero HGK.out.1) hP2
              have HQO:Hid (QV wr u7 (.slice aq 0 cq) (gk / P)∧wr.ownsRow w.heap.size 5 1 u7 (n+t) (chV (lows b X (n+t)))∧Bl w wr∧gk / P<gk):=⟨hqv,hown,hbl,hlt⟩
              clear hqv hown hbl hlt
              go_wp2
              go_roundg (gk / P)
              case measure=>exact HQO.out.2.2.2
              case rel=>exact ⟨n+t,HQO.out.1,HQO.out.2.1,HQO.out.2.2.1,by omega,HN.out⟩
        · have c2':¬ (t:Int)<(k:Int):=by omega
          obtain rfl:t=k:=by omega
          have HN:Hid ((gk / P ≠ 0∧gk / P=X / b ^ (n+t)) ∨ (gk / P=0∧1≤n+t∧b ^ (n+t - 1)≤X∧X<b ^ (n+t))):=by
           show _ ∨ _
           by_cases y:gk / P=0
           · exact Or.inr ⟨y,tell_last h1 HP.out HGK.out.2.1 HGK.out.1 y (by rw [← HP.out];exact Nat.div_eq_of_lt HGK.out.2.2) HZ.out.2⟩
           · exact Or.inl ⟨y,tell_more HP.out HGK.out.2.1⟩
          have hlt:gk / P<gk:=Nat.div_lt_self (Nat.pos_of_ne_zero HGK.out.1) hP2
          have HQO:Hid (QV wr u7 (.slice aq lq cq) (gk / P)∧wr.ownsRow w.heap.size 5 1 u7 (n+t) (chV (lows b X (n+t)))∧Bl w wr∧gk / P<gk):=⟨hqv,hown,hbl,hlt⟩
          clear hqv hown hbl hlt
          go_wp2
          go_roundg (gk / P)
          case measure=>exact HQO.out.2.2.2
          case rel=>exact ⟨n+t,HQO.out.1,HQO.out.2.1,HQO.out.2.2.1,by omega,HN.out⟩
     · obtain rfl:ll=0:=by omega
       have hgk:gk=0:=hvl.symm
       subst hgk
       have hK:1≤n∧b ^ (n - 1)≤X∧X<b ^ n:=by
        rcases HG.out with q | q
        · exact absurd rfl q.1
        · exact q.2
       have HK:Hid (1≤n∧b ^ (n - 1)≤X∧X<b ^ n∧Bl w wr):=⟨hK.1,hK.2.1,hK.2.2,hbl⟩
       have hn1:=hK.1
       rcases hown.2 with ⟨_,q⟩ | ⟨gt,cap,cur,hv,hbg,hheap,hle,hmx,hcs,htk⟩
       · omega
       rw [Nat.mul_one] at hcs htk
       have hgl:gt<wr.heap.size:=(Array.getElem?_eq_some_iff.1 hheap).1
       have hcell:∀ i,i<n → wr.cell? ⟨gt,i,none⟩=some (.int .u8 ((ch (X / b ^ i % b):Nat):Int)):=by
        intro i hi
        have q:(cur.toList.take n)[i]?=(chV (lows b X n))[i]?:=by rw [htk]
        rw [List.getElem?_take_of_lt hi] at q
        have q2:(chV (lows b X n))[i]?=some (.int .u8 ((ch (X / b ^ i % b):Nat):Int)):=by
         unfold chV lows
         rw [List.getElem?_map,List.getElem?_map,List.getElem?_range hi]
         rfl
        rw [q2] at q
        have q3:cur[i]?=some (.int .u8 ((ch (X / b ^ i % b):Nat):Int)):=by simpa using q
        simp [World.cell?,hheap,q3]
       have HC:Hid (∀ i,i<n → wr.cell? ⟨gt,i,none⟩=some (.int .u8 ((ch (X / b ^ i % b):Nat):Int))):=hcell
       clear hK hqv Sl0 tl0 hvl hown hheap htk hcs hcell HG hbl
       subst hv
       go_wp2
       obtain ⟨w5,hw5⟩:∃ w5,w5=wr:=⟨_,rfl⟩
       rw [← hw5]
       have HW5:Hid (w5=wr):=hw5
       go_loopw [11,12] (fun v i w'=>∃ m:Nat,i=vI ((m:Int) - 1)∧m≤n∧w'.ownsRow w5.heap.size 5 1 v (n - m) (dV .u8 (fun j=>ch (X / b ^ (n - 1 - j) % b)) (n - m))∧Bl w5 w') (fun _ i _=>(intOf i+1).toNat)
       case atStart=>exact ⟨n,rfl,Nat.le_refl _,by rw [Nat.sub_self];exact World.ownsRow_nil _ _ _ _,Below.refl _ _⟩
       case round =>
        obtain ⟨m,rfl,hm,hown,hbl⟩:=hrel
        subst hw5
        have hsz:=hbl.size
        by_cases c3:0<m
        · obtain ⟨j,rfl⟩:∃ j,m=j+1:=⟨m - 1,by omega⟩
          have ij:((j+1:Nat):Int) - 1=(j:Int):=by omega
          simp only [Int.natCast_add,Int.natCast_one] at ij
          have cz:=(hbl.cell (p:=⟨gt,j,none⟩) hgl).trans (HC.out j (by omega))
          have HE:Hid (n - j=n - (j+1)+1∧n - 1 - (n - (j+1))=j):=⟨by omega,by omega⟩
          have hcl:=ch_lt (Nat.lt_of_lt_of_le (Nat.mod_lt (X / b ^ j) (show 0<b by omega)) h2)
          obtain ⟨cr,hcr⟩:∃ cr,ch (X / b ^ j % b)=cr:=⟨_,rfl⟩
          have HCR:Hid (ch (X / b ^ j % b)=cr):=hcr
          rw [hcr] at cz hcl
          clear hcr
          obtain ⟨q,hq⟩:∃ q,n - (j+1)=q:=⟨_,rfl⟩
          rw [hq] at hown
          have hq9:q≤9000:=by omega
          have HQQ:Hid (n - (j+1)=q):=hq
          clear hq
          go_wp2_with (first
           | (at_builtin;refine wpList_append_own _ rfl _ _ 196 rfl w5.heap.size 5 i0 (.int .u8 0) 1 1 und_text hi hz0 hz1 hz2 rfl (by decide) _ _ _ rfl (hown.alloc _) ⟨wr.heap.size,0,none⟩ 1 1 [.int .u8 (cr:Int)] rfl rfl (World.news_of_block (cs:=#[.int .u8 (cr:Int)]) (t:=5) (fr:=(0,0)) (heap_alloc_new wr _)) (by simp [Value.oneCell']) (by unfold maxLen;omega) (by omega) (by rw [World.size_alloc];omega) ?_)
           | go_in)
          intro v' w3 hown' hgrow hnil
          have hb3:Bl w5 w3:=(hbl.alloc (by omega) _).grown hgrow (by rw [World.size_alloc];omega) (fun q hq=>(hown.lt q hq).1)
          have HO3:Hid (w3.ownsRow w5.heap.size 5 1 v' (n - j) (dV .u8 (fun j=>ch (X / b ^ (n - 1 - j) % b)) (n - j))∧Bl w5 w3):=by
           refine ⟨?_,hb3⟩
           rw [HE.out.1,dV_succ,HE.out.2,HCR.out,HQQ.out]
           exact hown'
          clear hown' hb3 hgrow hnil hown hbl
          go_wp2
          go_roundw
          case rel=>exact ⟨j,by go_num,by omega,HO3.out.1,HO3.out.2⟩
          case measure=>first | (simp [intOf];done) | (simp [intOf];omega)
        · obtain rfl:m=0:=by omega
          rw [Nat.sub_zero] at hown
          have hoc:=own_cells hown
          obtain ⟨ao',c',b',rfl,o1,o2,o3,o4⟩:=hoc
          obtain ⟨o31,_,_⟩:=o3 (by omega)
          subst o31
          have hcell:∀ i,i<n → wr.cell? ⟨b',0+i,none⟩=some (.int .u8 (((List.range n).map fun i=>((ch (X / b ^ (n - 1 - i) % b):Nat):Int)).getD i 0)):=by
           intro i hi
           rw [o4 i hi]
           congr 2
           rw [List.getD_eq_getElem?_getD,List.getElem?_map,List.getElem?_range hi]
           rfl
          have hconv:=run_convert_bytes_arg wr 196 5 und_text und_byte8 b' 0 n c' ((List.range n).map fun i=>((ch (X / b ^ (n - 1 - i) % b):Nat):Int)) (by simp) hcell 9 und_str9
          rw [show strOfNums ((List.range n).map fun i=>((ch (X / b ^ (n - 1 - i) % b):Nat):Int))=rowText b X n from rfl] at hconv
          have BF:Bl w wr:=HK.out.2.2.2.trans (hbl.mono HK.out.2.2.2.size)
          clear hcell o4 hown
          generalize hTT:rowText b X n=TT at *
          have HTT:Hid (rowText b X n=TT):=hTT
          clear hTT
          go_wp2
          go_ret
          exact ⟨n,by rw [HTT.out];rfl,HK.out.1,HK.out.2.1,HK.out.2.2.1,BF⟩
structure ShB (w W:World) (a b c d:Value):Prop where
 sz:w.heap.size+1≤W.heap.size
 bel:Bl w W
 a0:W.cell? ⟨w.heap.size,0,none⟩=some a
 a1:W.cell? ⟨w.heap.size,1,none⟩=some b
 a2:W.cell? ⟨w.heap.size,2,none⟩=some c
 a3:W.cell? ⟨w.heap.size,3,none⟩=some d
theorem ShB.step {w W W':World}{a b c d:Value}(h:ShB w W a b c d) (hb:Bl W W'):ShB w W' a b c d:=by
 have z:=h.sz
 have k:∀ o,W'.cell? ⟨w.heap.size,o,none⟩=W.cell? ⟨w.heap.size,o,none⟩:=fun o=>hb.cell (p:=⟨w.heap.size,o,none⟩) (by show w.heap.size<W.heap.size;omega)
 exact ⟨Nat.le_trans z hb.size,h.bel.trans (hb.mono (by omega)),(k 0).trans h.a0,(k 1).trans h.a1,(k 2).trans h.a2,(k 3).trans h.a3⟩
theorem ShB.drew {w W:World}{a b c d:Value}(h:ShB w W a b c d):ShB w W.drew a b c d:=h.step (Below.refl _ _).drew
structure FlB (W:World) (K:Nat) (a b c d:Value):Prop where
 lt:K<W.heap.size
 a0:W.cell? ⟨K,0,none⟩=some a
 a1:W.cell? ⟨K,1,none⟩=some b
 a2:W.cell? ⟨K,2,none⟩=some c
 a3:W.cell? ⟨K,3,none⟩=some d
 f0:W.frozen? ⟨K,0,none⟩=false
 f1:W.frozen? ⟨K,1,none⟩=false
 f2:W.frozen? ⟨K,2,none⟩=false
 f3:W.frozen? ⟨K,3,none⟩=false
theorem FlB.step {W W':World}{K:Nat}{a b c d:Value}(h:FlB W K a b c d) (hb:Bl W W'):FlB W' K a b c d:=by
 have k:=fun o=>hb.cell (p:=⟨K,o,none⟩) h.lt
 have j:=fun o=>hb.frozen (p:=⟨K,o,none⟩) h.lt
 exact ⟨Nat.lt_of_lt_of_le h.lt hb.size,(k 0).trans h.a0,(k 1).trans h.a1,(k 2).trans h.a2,(k 3).trans h.a3,(j 0).trans h.f0,(j 1).trans h.f1,(j 2).trans h.f2,(j 3).trans h.f3⟩
theorem FlB.new (W:World) (a b c d:Value) (T:TypeId):FlB (W.alloc (.cells #[a,b,c,d] T)) W.heap.size a b c d :=
 ⟨by simp,by simp,by simp,by simp,by simp,World.frozen?_alloc_new _ _ _ _,World.frozen?_alloc_new _ _ _ _,World.frozen?_alloc_new _ _ _ _,World.frozen?_alloc_new _ _ _ _⟩
theorem FlB.drew {W:World}{K:Nat}{a b c d:Value}(h:FlB W K a b c d):FlB W.drew K a b c d:=h.step (Below.refl _ _).drew
theorem FlB.set3 {W:World}{K:Nat}{a b c d:Value}(h:FlB W K a b c d) (v:Value):FlB (W.setCell ⟨K,3,none⟩ v) K a b c v:=by
 obtain ⟨z,a0,a1,a2,a3,f0,f1,f2,f3⟩:=h
 exact ⟨by simpa using z,(World.cell?_setCell_other _ ⟨K,3,none⟩ ⟨K,0,none⟩ v (by intro e;cases e)).trans a0,(World.cell?_setCell_other _ ⟨K,3,none⟩ ⟨K,1,none⟩ v (by intro e;cases e)).trans a1,(World.cell?_setCell_other _ ⟨K,3,none⟩ ⟨K,2,none⟩ v (by intro e;cases e)).trans a2,World.cell?_setCell_same _ _ _ a3,(World.frozen?_setCell ..).trans f0,(World.frozen?_setCell ..).trans f1,(World.frozen?_setCell ..).trans f2,(World.frozen?_setCell ..).trans f3⟩
theorem rfrac_32 (w:World):Cs 37 #[vI 32] w (vI 23):=by
 go_enter Tryz.func37,Tryz.ntmps37
 go_wp2
 go_ret
 exact ⟨rfl,rfl⟩
theorem rtop_32 (w:World):Cs 71 #[vI 32] w (vU 255):=by
 go_enter Tryz.func71,Tryz.ntmps71
 go_wp2
 go_ret
 exact ⟨rfl,rfl⟩
theorem rlow_32 (w:World):Cs 121 #[vI 32] w (vI (-149)):=by
 go_enter Tryz.func121,Tryz.ntmps121
 go_wp2
 go_ret
 exact ⟨rfl,rfl⟩
theorem rsign_32 (w:World):Cs 38 #[vI 32] w (vU 2147483648):=by
 go_enter Tryz.func38,Tryz.ntmps38
 go_wp2
 go_ret
 exact ⟨rfl,rfl⟩
theorem rsize_32 (w:World):Cs 15 #[vI 32] w (.bool true):=by
 go_enter Tryz.func15,Tryz.ntmps15
 go_wp2
 go_ret
 exact ⟨rfl,rfl⟩
theorem rinf_32 (w:World):Cs 36 #[vI 32] w (vU 2139095040):=by
 have H1:=fun W=>rtop_32 W
 have H2:=fun W=>rfrac_32 W
 go_enter Tryz.func36,Tryz.ntmps36
 go_wp2_with fail
 refine (H1 _).mono ?_
 rintro e w ⟨rfl,rfl⟩
 go_wp2_with fail
 refine (H2 _).mono ?_
 rintro e w ⟨rfl,rfl⟩
 go_wp2
 go_ret
 exact ⟨rfl,rfl⟩
theorem rInf_32 (w:World):Cs 19 #[vI 32] w (vU 2139095040):=by
 have H1:=fun W=>rinf_32 W
 go_enter Tryz.func19,Tryz.ntmps19
 go_wp2_with fail
 refine (H1 _).mono ?_
 rintro e w ⟨rfl,rfl⟩
 go_wp2
 go_ret
 exact ⟨rfl,rfl⟩
theorem rmag_32 {b:Nat}(h:b<4294967296) (w:World):Cs 18 #[vU (b:Int),vI 32] w (vU ((mg 2147483648 b:Nat):Int)):=by
 have hA:=andNot_32 b h
 have H1:=fun W=>rsign_32 W
 clear h
 go_enter Tryz.func18,Tryz.ntmps18
 go_wp2_with fail
 refine (H1 _).mono ?_
 rintro e w ⟨rfl,rfl⟩
 go_wp2
 go_ret
 exact ⟨rfl,rfl⟩
theorem rof_32 {b:Nat}(h:b<4294967296) (w:World):Cs 74 #[vU (b:Int),vI 32] w (vI (cl 2139095040 (mg 2147483648 b))):=by
 have HM:=fun W=>rmag_32 h W
 have HI:=fun W=>rinf_32 W
 generalize mg 2147483648 b=x at *
 have C:=cl_cases 2139095040 x
 have C2:(((x:Int) == 0)=true∧cl 2139095040 x=1) ∨ (((x:Int) == 0)=false∧decide ((x:Int)<2139095040)=true∧cl 2139095040 x=2) ∨ (((x:Int) == 0)=false∧decide ((x:Int)<2139095040)=false∧((x:Int) == 2139095040)=true∧cl 2139095040 x=3) ∨ (((x:Int) == 0)=false∧decide ((x:Int)<2139095040)=false∧((x:Int) == 2139095040)=false∧cl 2139095040 x=4):=by
  rcases C with ⟨p,q⟩ | ⟨p0,p1,q⟩ | ⟨p0,p1,q⟩ | ⟨p1,q⟩
  · exact .inl ⟨by simp;omega,q⟩
  · exact .inr (.inl ⟨by simp;omega,by simp;omega,q⟩)
  · exact .inr (.inr (.inl ⟨by simp;omega,by simp;omega,by simp;omega,q⟩))
  · exact .inr (.inr (.inr ⟨by simp;omega,by simp;omega,by simp;omega,q⟩))
 clear C h
 generalize cl 2139095040 x=C at *
 rcases C2 with ⟨p0,rfl⟩ | ⟨p0,p1,rfl⟩ | ⟨p0,p1,p2,rfl⟩ | ⟨p0,p1,p2,rfl⟩
 · go_enter Tryz.func74,Tryz.ntmps74
   go_wp2_with fail
   refine (HM _).mono ?_
   rintro e w ⟨rfl,rfl⟩
   go_wp2
   go_ret
   exact ⟨rfl,rfl⟩
 · go_enter Tryz.func74,Tryz.ntmps74
   go_wp2_with fail
   refine (HM _).mono ?_
   rintro e w ⟨rfl,rfl⟩
   go_wp2_with fail
   refine (HI _).mono ?_
   rintro e w ⟨rfl,rfl⟩
   go_wp2
   go_ret
   exact ⟨rfl,rfl⟩
 · go_enter Tryz.func74,Tryz.ntmps74
   go_wp2_with fail
   refine (HM _).mono ?_
   rintro e w ⟨rfl,rfl⟩
   go_wp2_with fail
   refine (HI _).mono ?_
   rintro e w ⟨rfl,rfl⟩
   go_wp2_with fail
   refine (HI _).mono ?_
   rintro e w ⟨rfl,rfl⟩
   go_wp2
   go_ret
   exact ⟨rfl,rfl⟩
 · go_enter Tryz.func74,Tryz.ntmps74
   go_wp2_with fail
   refine (HM _).mono ?_
   rintro e w ⟨rfl,rfl⟩
   go_wp2_with fail
   refine (HI _).mono ?_
   rintro e w ⟨rfl,rfl⟩
   go_wp2_with fail
   refine (HI _).mono ?_
   rintro e w ⟨rfl,rfl⟩
   go_wp2
   go_ret
   exact ⟨rfl,rfl⟩
theorem rparts_32 {b:Nat}(h:b<4294967296) (w:World):Cs 84 #[vU (b:Int),vI 32] w (.tuple #[vU ((mt 23 (mg 2147483648 b):Nat):Int),vI (xp 23 (-149) (mg 2147483648 b))]):=by
 have HM:=fun W=>rmag_32 h W
 have H2:=fun W=>rfrac_32 W
 have H3:=fun W=>rlow_32 W
 have hl:=mg_lt (g:=2147483648) (by decide) b
 generalize mg 2147483648 b=x at *
 clear h
 have hM:=and_mask_32 (m:=x) (by omega)
 have lo:=Nat.mod_lt x (show 0<8388608 by decide)
 have hO:=or_hid_32 lo
 have E1:Hid (mt 23 x=if x / 8388608=0 then x else x % 8388608+8388608):=rfl
 have E2:Hid (xp 23 (-149) x=if x / 8388608=0 then (-149) else (-149)+((x / 8388608:Nat):Int) - 1):=rfl
 have E3:Hid (x / 8388608 * 8388608+x % 8388608=x):=Nat.div_add_mod' x 8388608
 have hq:x / 8388608<2048:=by omega
 have eq:(x:Int) / 8388608=((x / 8388608:Nat):Int):=rfl
 obtain ⟨y,hr⟩:∃ y,y=x % 8388608:=⟨_,rfl⟩
 obtain ⟨k,hk⟩:∃ k,k=x / 8388608:=⟨_,rfl⟩
 rw [← hr] at hM hO lo E1 E3
 rw [← hk] at hq eq E1 E2 E3
 clear hr hk
 by_cases z:k=0
 · have e0:((k:Int) == 0)=true:=by simp;omega
   have G:Hid (mt 23 x=y∧xp 23 (-149) x=(-149)):=⟨by rw [E1.out,if_pos z];have:=E3.out;rw [z] at this;omega,by rw [E2.out,if_pos z]⟩
   rw [G.out.1,G.out.2]
   clear z
   go_enter Tryz.func84,Tryz.ntmps84
   go_wp2_with fail
   refine (HM _).mono ?_
   rintro e w ⟨rfl,rfl⟩
   go_wp2_with fail
   refine (H2 _).mono ?_
   rintro e w ⟨rfl,rfl⟩
   go_wp2_with fail
   refine (H3 _).mono ?_
   rintro e w ⟨rfl,rfl⟩
   go_wp2
   go_ret2
   exact ⟨rfl,rfl⟩
 · have e0:((k:Int) == 0)=false:=by simp;omega
   have G:Hid (mt 23 x=y+8388608∧xp 23 (-149) x=(-149)+(k:Int) - 1):=⟨by rw [E1.out,if_neg z],by rw [E2.out,if_neg z]⟩
   rw [G.out.1,G.out.2]
   clear z
   go_enter Tryz.func84,Tryz.ntmps84
   go_wp2_with fail
   refine (HM _).mono ?_
   rintro e w ⟨rfl,rfl⟩
   go_wp2_with fail
   refine (H2 _).mono ?_
   rintro e w ⟨rfl,rfl⟩
   go_wp2_with fail
   refine (H3 _).mono ?_
   rintro e w ⟨rfl,rfl⟩
   go_wp2
   go_ret2
   exact ⟨rfl,rfl⟩
theorem rfrac_64 (w:World):Cs 37 #[vI 64] w (vI 52):=by
 go_enter Tryz.func37,Tryz.ntmps37
 go_wp2
 go_ret
 exact ⟨rfl,rfl⟩
theorem rtop_64 (w:World):Cs 71 #[vI 64] w (vU 2047):=by
 go_enter Tryz.func71,Tryz.ntmps71
 go_wp2
 go_ret
 exact ⟨rfl,rfl⟩
theorem rlow_64 (w:World):Cs 121 #[vI 64] w (vI (-1074)):=by
 go_enter Tryz.func121,Tryz.ntmps121
 go_wp2
 go_ret
 exact ⟨rfl,rfl⟩
theorem rsign_64 (w:World):Cs 38 #[vI 64] w (vU 9223372036854775808):=by
 go_enter Tryz.func38,Tryz.ntmps38
 go_wp2
 go_ret
 exact ⟨rfl,rfl⟩
theorem rsize_64 (w:World):Cs 15 #[vI 64] w (.bool true):=by
 go_enter Tryz.func15,Tryz.ntmps15
 go_wp2
 go_ret
 exact ⟨rfl,rfl⟩
theorem rinf_64 (w:World):Cs 36 #[vI 64] w (vU 9218868437227405312):=by
 have H1:=fun W=>rtop_64 W
 have H2:=fun W=>rfrac_64 W
 go_enter Tryz.func36,Tryz.ntmps36
 go_wp2_with fail
 refine (H1 _).mono ?_
 rintro e w ⟨rfl,rfl⟩
 go_wp2_with fail
 refine (H2 _).mono ?_
 rintro e w ⟨rfl,rfl⟩
 go_wp2
 go_ret
 exact ⟨rfl,rfl⟩
theorem rInf_64 (w:World):Cs 19 #[vI 64] w (vU 9218868437227405312):=by
 have H1:=fun W=>rinf_64 W
 go_enter Tryz.func19,Tryz.ntmps19
 go_wp2_with fail
 refine (H1 _).mono ?_
 rintro e w ⟨rfl,rfl⟩
 go_wp2
 go_ret
 exact ⟨rfl,rfl⟩
theorem rmag_64 {b:Nat}(h:b<18446744073709551616) (w:World):Cs 18 #[vU (b:Int),vI 64] w (vU ((mg 9223372036854775808 b:Nat):Int)):=by
 have hA:=andNot_64 b h
 have H1:=fun W=>rsign_64 W
 clear h
 go_enter Tryz.func18,Tryz.ntmps18
 go_wp2_with fail
 refine (H1 _).mono ?_
 rintro e w ⟨rfl,rfl⟩
 go_wp2
 go_ret
 exact ⟨rfl,rfl⟩
theorem rof_64 {b:Nat}(h:b<18446744073709551616) (w:World):Cs 74 #[vU (b:Int),vI 64] w (vI (cl 9218868437227405312 (mg 9223372036854775808 b))):=by
 have HM:=fun W=>rmag_64 h W
 have HI:=fun W=>rinf_64 W
 generalize mg 9223372036854775808 b=x at *
 have C:=cl_cases 9218868437227405312 x
 have C2:(((x:Int) == 0)=true∧cl 9218868437227405312 x=1) ∨ (((x:Int) == 0)=false∧decide ((x:Int)<9218868437227405312)=true∧cl 9218868437227405312 x=2) ∨ (((x:Int) == 0)=false∧decide ((x:Int)<9218868437227405312)=false∧((x:Int) == 9218868437227405312)=true∧cl 9218868437227405312 x=3) ∨ (((x:Int) == 0)=false∧decide ((x:Int)<9218868437227405312)=false∧((x:Int) == 9218868437227405312)=false∧cl 9218868437227405312 x=4):=by
  rcases C with ⟨p,q⟩ | ⟨p0,p1,q⟩ | ⟨p0,p1,q⟩ | ⟨p1,q⟩
  · exact .inl ⟨by simp;omega,q⟩
  · exact .inr (.inl ⟨by simp;omega,by simp;omega,q⟩)
  · exact .inr (.inr (.inl ⟨by simp;omega,by simp;omega,by simp;omega,q⟩))
  · exact .inr (.inr (.inr ⟨by simp;omega,by simp;omega,by simp;omega,q⟩))
 clear C h
 generalize cl 9218868437227405312 x=C at *
 rcases C2 with ⟨p0,rfl⟩ | ⟨p0,p1,rfl⟩ | ⟨p0,p1,p2,rfl⟩ | ⟨p0,p1,p2,rfl⟩
 · go_enter Tryz.func74,Tryz.ntmps74
   go_wp2_with fail
   refine (HM _).mono ?_
   rintro e w ⟨rfl,rfl⟩
   go_wp2
   go_ret
   exact ⟨rfl,rfl⟩
 · go_enter Tryz.func74,Tryz.ntmps74
   go_wp2_with fail
   refine (HM _).mono ?_
   rintro e w ⟨rfl,rfl⟩
   go_wp2_with fail
   refine (HI _).mono ?_
   rintro e w ⟨rfl,rfl⟩
   go_wp2
   go_ret
   exact ⟨rfl,rfl⟩
 · go_enter Tryz.func74,Tryz.ntmps74
   go_wp2_with fail
   refine (HM _).mono ?_
   rintro e w ⟨rfl,rfl⟩
   go_wp2_with fail
   refine (HI _).mono ?_
   rintro e w ⟨rfl,rfl⟩
   go_wp2_with fail
   refine (HI _).mono ?_
   rintro e w ⟨rfl,rfl⟩
   go_wp2
   go_ret
   exact ⟨rfl,rfl⟩
 · go_enter Tryz.func74,Tryz.ntmps74
   go_wp2_with fail
   refine (HM _).mono ?_
   rintro e w ⟨rfl,rfl⟩
   go_wp2_with fail
   refine (HI _).mono ?_
   rintro e w ⟨rfl,rfl⟩
   go_wp2_with fail
   refine (HI _).mono ?_
   rintro e w ⟨rfl,rfl⟩
   go_wp2
   go_ret
   exact ⟨rfl,rfl⟩
theorem rparts_64 {b:Nat}(h:b<18446744073709551616) (w:World):Cs 84 #[vU (b:Int),vI 64] w (.tuple #[vU ((mt 52 (mg 9223372036854775808 b):Nat):Int),vI (xp 52 (-1074) (mg 9223372036854775808 b))]):=by
 have HM:=fun W=>rmag_64 h W
 have H2:=fun W=>rfrac_64 W
 have H3:=fun W=>rlow_64 W
 have hl:=mg_lt (g:=9223372036854775808) (by decide) b
 generalize mg 9223372036854775808 b=x at *
 clear h
 have hM:=and_mask_64 (m:=x) (by omega)
 have lo:=Nat.mod_lt x (show 0<4503599627370496 by decide)
 have hO:=or_hid_64 lo
 have E1:Hid (mt 52 x=if x / 4503599627370496=0 then x else x % 4503599627370496+4503599627370496):=rfl
 have E2:Hid (xp 52 (-1074) x=if x / 4503599627370496=0 then (-1074) else (-1074)+((x / 4503599627370496:Nat):Int) - 1):=rfl
 have E3:Hid (x / 4503599627370496 * 4503599627370496+x % 4503599627370496=x):=Nat.div_add_mod' x 4503599627370496
 have hq:x / 4503599627370496<2048:=by omega
 have eq:(x:Int) / 4503599627370496=((x / 4503599627370496:Nat):Int):=rfl
 obtain ⟨y,hr⟩:∃ y,y=x % 4503599627370496:=⟨_,rfl⟩
 obtain ⟨k,hk⟩:∃ k,k=x / 4503599627370496:=⟨_,rfl⟩
 rw [← hr] at hM hO lo E1 E3
 rw [← hk] at hq eq E1 E2 E3
 clear hr hk
 by_cases z:k=0
 · have e0:((k:Int) == 0)=true:=by simp;omega
   have G:Hid (mt 52 x=y∧xp 52 (-1074) x=(-1074)):=⟨by rw [E1.out,if_pos z];have:=E3.out;rw [z] at this;omega,by rw [E2.out,if_pos z]⟩
   rw [G.out.1,G.out.2]
   clear z
   go_enter Tryz.func84,Tryz.ntmps84
   go_wp2_with fail
   refine (HM _).mono ?_
   rintro e w ⟨rfl,rfl⟩
   go_wp2_with fail
   refine (H2 _).mono ?_
   rintro e w ⟨rfl,rfl⟩
   go_wp2_with fail
   refine (H3 _).mono ?_
   rintro e w ⟨rfl,rfl⟩
   go_wp2
   go_ret2
   exact ⟨rfl,rfl⟩
 · have e0:((k:Int) == 0)=false:=by simp;omega
   have G:Hid (mt 52 x=y+4503599627370496∧xp 52 (-1074) x=(-1074)+(k:Int) - 1):=⟨by rw [E1.out,if_neg z],by rw [E2.out,if_neg z]⟩
   rw [G.out.1,G.out.2]
   clear z
   go_enter Tryz.func84,Tryz.ntmps84
   go_wp2_with fail
   refine (HM _).mono ?_
   rintro e w ⟨rfl,rfl⟩
   go_wp2_with fail
   refine (H2 _).mono ?_
   rintro e w ⟨rfl,rfl⟩
   go_wp2_with fail
   refine (H3 _).mono ?_
   rintro e w ⟨rfl,rfl⟩
   go_wp2
   go_ret2
   exact ⟨rfl,rfl⟩
theorem rsize_no {s:Int}(h:Sn s) (w:World):Cs 15 #[vI s] w (.bool false):=by
 have p1:(s == 32)=false:=by simpa using h.1
 have p2:(s == 64)=false:=by simpa using h.2
 clear h
 go_enter Tryz.func15,Tryz.ntmps15
 go_wp2
 go_ret
 exact ⟨rfl,rfl⟩
theorem rcheck_32 {b:Nat}(h:b<4294967296) (w:World):Cs 73 #[vU (b:Int),vI 32] w (vI 0):=by
 have H:=fun W=>rsize_32 W
 have q:((b:Int) / 4294967296 != 0)=false:=by simp;omega
 go_enter Tryz.func73,Tryz.ntmps73
 go_wp2_with fail
 refine (H _).mono ?_
 rintro e w ⟨rfl,rfl⟩
 go_wp2
 go_ret
 exact ⟨rfl,rfl⟩
theorem rcheck_64 (b:Int) (w:World):Cs 73 #[vU b,vI 64] w (vI 0):=by
 have H:=fun W=>rsize_64 W
 go_enter Tryz.func73,Tryz.ntmps73
 go_wp2_with fail
 refine (H _).mono ?_
 rintro e w ⟨rfl,rfl⟩
 go_wp2
 go_ret
 exact ⟨rfl,rfl⟩
theorem runp_32 {b:Nat}(h:b<4294967296) (w:World):Cb 43 #[vU (b:Int),vI 32] w (.tuple #[.agg #[.bool (uN 2147483648 2139095040 b),vI (cl 2139095040 (mg 2147483648 b)),vU ((uM 2139095040 23 (mg 2147483648 b):Nat):Int),vI (uE 2139095040 23 (-149) (mg 2147483648 b))],vI 0]):=by
 have H:=fun W=>rcheck_32 h W
 have HO:=fun W=>rof_32 h W
 have HS:=fun W=>rsign_32 W
 have HP:=fun W=>rparts_32 h W
 have hA:=and_sign_32 b h
 have hN:((((if ng 2147483648 b then 2147483648 else 0:Nat):Int)) != 0)=ng 2147483648 b:=by
  cases ng 2147483648 b <;> decide
 rw [← hA] at hN
 unfold uN uM uE
 generalize mg 2147483648 b=x at *
 generalize ng 2147483648 b=g at *
 generalize mt 23 x=M at *
 generalize xp 23 (-149) x=X at *
 have HQ:cl 2139095040 x=1 ∨ cl 2139095040 x=2 ∨ cl 2139095040 x=3 ∨ cl 2139095040 x=4:=by
  rcases cl_cases 2139095040 x with ⟨_,q⟩ | ⟨_,_,q⟩ | ⟨_,_,q⟩ | ⟨_,q⟩
  · exact .inl q
  · exact .inr (.inl q)
  · exact .inr (.inr (.inl q))
  · exact .inr (.inr (.inr q))
 generalize cl 2139095040 x=C at *
 obtain ⟨Y,hY⟩:∃ Y,bits BinOp.and IntKind.u64 (b:Int) 2147483648=Y:=⟨_,rfl⟩
 rw [hY] at hN
 clear hA h
 rcases HQ with rfl | rfl | rfl | rfl
 · go_enter Tryz.func43,Tryz.ntmps43
   go_wp2_with fail
   refine (H _).mono ?_
   rintro e w1 ⟨rfl,hh⟩
   subst hh
   go_wp2_with fail
   refine (HS _).mono ?_
   rintro e w1 ⟨rfl,hh⟩
   subst hh
   go_wp2_with fail
   refine (HO _).mono ?_
   rintro e w1 ⟨rfl,hh⟩
   subst hh
   go_wp2
   exact bodyPost_ret (v:=.tuple #[.agg #[.bool g,vI 1,vU 0,vI 0],vI 0]) (by simp [results,Tryz.results43,go_sem]) rfl ⟨rfl,(bz _ _).alloc (by simp) _⟩
 · go_enter Tryz.func43,Tryz.ntmps43
   go_wp2_with fail
   refine (H _).mono ?_
   rintro e w1 ⟨rfl,hh⟩
   subst hh
   go_wp2_with fail
   refine (HS _).mono ?_
   rintro e w1 ⟨rfl,hh⟩
   subst hh
   go_wp2_with fail
   refine (HO _).mono ?_
   rintro e w1 ⟨rfl,hh⟩
   subst hh
   go_wp2_with fail
   refine (HP _).mono ?_
   rintro e w1 ⟨rfl,hh⟩
   subst hh
   go_wp2
   exact bodyPost_ret (v:=.tuple #[.agg #[.bool g,vI 2,vU (M:Int),vI X],vI 0]) (by simp [results,Tryz.results43,go_sem]) rfl ⟨rfl,(bz _ _).alloc (by simp) _⟩
 · go_enter Tryz.func43,Tryz.ntmps43
   go_wp2_with fail
   refine (H _).mono ?_
   rintro e w1 ⟨rfl,hh⟩
   subst hh
   go_wp2_with fail
   refine (HS _).mono ?_
   rintro e w1 ⟨rfl,hh⟩
   subst hh
   go_wp2_with fail
   refine (HO _).mono ?_
   rintro e w1 ⟨rfl,hh⟩
   subst hh
   go_wp2
   exact bodyPost_ret (v:=.tuple #[.agg #[.bool g,vI 3,vU 0,vI 0],vI 0]) (by simp [results,Tryz.results43,go_sem]) rfl ⟨rfl,(bz _ _).alloc (by simp) _⟩
 · go_enter Tryz.func43,Tryz.ntmps43
   go_wp2_with fail
   refine (H _).mono ?_
   rintro e w1 ⟨rfl,hh⟩
   subst hh
   go_wp2_with fail
   refine (HS _).mono ?_
   rintro e w1 ⟨rfl,hh⟩
   subst hh
   go_wp2_with fail
   refine (HO _).mono ?_
   rintro e w1 ⟨rfl,hh⟩
   subst hh
   go_wp2
   exact bodyPost_ret (v:=.tuple #[.agg #[.bool false,vI 4,vU 0,vI 0],vI 0]) (by simp [results,Tryz.results43,go_sem]) rfl ⟨rfl,(bz _ _).alloc (by simp) _⟩
theorem runp_64 {b:Nat}(h:b<18446744073709551616) (w:World):Cb 43 #[vU (b:Int),vI 64] w (.tuple #[.agg #[.bool (uN 9223372036854775808 9218868437227405312 b),vI (cl 9218868437227405312 (mg 9223372036854775808 b)),vU ((uM 9218868437227405312 52 (mg 9223372036854775808 b):Nat):Int),vI (uE 9218868437227405312 52 (-1074) (mg 9223372036854775808 b))],vI 0]):=by
 have H:=fun W=>rcheck_64 (b:Int) W
 have HO:=fun W=>rof_64 h W
 have HS:=fun W=>rsign_64 W
 have HP:=fun W=>rparts_64 h W
 have hA:=and_sign_64 b h
 have hN:((((if ng 9223372036854775808 b then 9223372036854775808 else 0:Nat):Int)) != 0)=ng 9223372036854775808 b:=by
  cases ng 9223372036854775808 b <;> decide
 rw [← hA] at hN
 unfold uN uM uE
 generalize mg 9223372036854775808 b=x at *
 generalize ng 9223372036854775808 b=g at *
 generalize mt 52 x=M at *
 generalize xp 52 (-1074) x=X at *
 have HQ:cl 9218868437227405312 x=1 ∨ cl 9218868437227405312 x=2 ∨ cl 9218868437227405312 x=3 ∨ cl 9218868437227405312 x=4:=by
  rcases cl_cases 9218868437227405312 x with ⟨_,q⟩ | ⟨_,_,q⟩ | ⟨_,_,q⟩ | ⟨_,q⟩
  · exact .inl q
  · exact .inr (.inl q)
  · exact .inr (.inr (.inl q))
  · exact .inr (.inr (.inr q))
 generalize cl 9218868437227405312 x=C at *
 obtain ⟨Y,hY⟩:∃ Y,bits BinOp.and IntKind.u64 (b:Int) 9223372036854775808=Y:=⟨_,rfl⟩
 rw [hY] at hN
 clear hA h
 rcases HQ with rfl | rfl | rfl | rfl
 · go_enter Tryz.func43,Tryz.ntmps43
   go_wp2_with fail
   refine (H _).mono ?_
   rintro e w1 ⟨rfl,hh⟩
   subst hh
   go_wp2_with fail
   refine (HS _).mono ?_
   rintro e w1 ⟨rfl,hh⟩
   subst hh
   go_wp2_with fail
   refine (HO _).mono ?_
   rintro e w1 ⟨rfl,hh⟩
   subst hh
   go_wp2
   exact bodyPost_ret (v:=.tuple #[.agg #[.bool g,vI 1,vU 0,vI 0],vI 0]) (by simp [results,Tryz.results43,go_sem]) rfl ⟨rfl,(bz _ _).alloc (by simp) _⟩
 · go_enter Tryz.func43,Tryz.ntmps43
   go_wp2_with fail
   refine (H _).mono ?_
   rintro e w1 ⟨rfl,hh⟩
   subst hh
   go_wp2_with fail
   refine (HS _).mono ?_
   rintro e w1 ⟨rfl,hh⟩
   subst hh
   go_wp2_with fail
   refine (HO _).mono ?_
   rintro e w1 ⟨rfl,hh⟩
   subst hh
   go_wp2_with fail
   refine (HP _).mono ?_
   rintro e w1 ⟨rfl,hh⟩
   subst hh
   go_wp2
   exact bodyPost_ret (v:=.tuple #[.agg #[.bool g,vI 2,vU (M:Int),vI X],vI 0]) (by simp [results,Tryz.results43,go_sem]) rfl ⟨rfl,(bz _ _).alloc (by simp) _⟩
 · go_enter Tryz.func43,Tryz.ntmps43
   go_wp2_with fail
   refine (H _).mono ?_
   rintro e w1 ⟨rfl,hh⟩
   subst hh
   go_wp2_with fail
   refine (HS _).mono ?_
   rintro e w1 ⟨rfl,hh⟩
   subst hh
   go_wp2_with fail
   refine (HO _).mono ?_
   rintro e w1 ⟨rfl,hh⟩
   subst hh
   go_wp2
   exact bodyPost_ret (v:=.tuple #[.agg #[.bool g,vI 3,vU 0,vI 0],vI 0]) (by simp [results,Tryz.results43,go_sem]) rfl ⟨rfl,(bz _ _).alloc (by simp) _⟩
 · go_enter Tryz.func43,Tryz.ntmps43
   go_wp2_with fail
   refine (H _).mono ?_
   rintro e w1 ⟨rfl,hh⟩
   subst hh
   go_wp2_with fail
   refine (HS _).mono ?_
   rintro e w1 ⟨rfl,hh⟩
   subst hh
   go_wp2_with fail
   refine (HO _).mono ?_
   rintro e w1 ⟨rfl,hh⟩
   subst hh
   go_wp2
   exact bodyPost_ret (v:=.tuple #[.agg #[.bool false,vI 4,vU 0,vI 0],vI 0]) (by simp [results,Tryz.results43,go_sem]) rfl ⟨rfl,(bz _ _).alloc (by simp) _⟩
def Fz (s:Int) (g n f T:Nat) (L:Int):Prop :=
 (s=32∧g=2147483648∧n=2139095040∧f=23∧T=255∧L = -149) ∨ (s=64∧g=9223372036854775808∧n=9218868437227405312∧f=52∧T=2047∧L = -1074)
structure GrB (W:World) (K:Nat) (a b c:Value):Prop where
 lt:K<W.heap.size
 a0:W.cell? ⟨K,0,none⟩=some a
 a1:W.cell? ⟨K,1,none⟩=some b
 a2:W.cell? ⟨K,2,none⟩=some c
 f0:W.frozen? ⟨K,0,none⟩=false
 f1:W.frozen? ⟨K,1,none⟩=false
 f2:W.frozen? ⟨K,2,none⟩=false
theorem GrB.step {W W':World}{K:Nat}{a b c:Value}(h:GrB W K a b c) (hb:Bl W W'):GrB W' K a b c:=by
 have k:=fun o=>hb.cell (p:=⟨K,o,none⟩) h.lt
 have j:=fun o=>hb.frozen (p:=⟨K,o,none⟩) h.lt
 exact ⟨Nat.lt_of_lt_of_le h.lt hb.size,(k 0).trans h.a0,(k 1).trans h.a1,(k 2).trans h.a2,(j 0).trans h.f0,(j 1).trans h.f1,(j 2).trans h.f2⟩
theorem GrB.new (W:World) (a b c:Value) (T:TypeId):GrB (W.alloc (.cells #[a,b,c] T)) W.heap.size a b c :=
 ⟨by simp,by simp,by simp,by simp,World.frozen?_alloc_new _ _ _ _,World.frozen?_alloc_new _ _ _ _,World.frozen?_alloc_new _ _ _ _⟩
theorem rinf_z {s:Int}{g n f T:Nat}{L:Int}(h:Fz s g n f T L) (w:World):Cs 19 #[vI s] w (vU ((T * 2 ^ f:Nat):Int)):=by
 rcases h with ⟨rfl,rfl,rfl,rfl,rfl,rfl⟩ | ⟨rfl,rfl,rfl,rfl,rfl,rfl⟩
 · exact rInf_32 w
 · exact rInf_64 w
theorem runp_z {s:Int}{g n f T:Nat}{L:Int}(h:Fz s g n f T L) {b:Nat}(hb:b<2 * g) (w:World):Cb 43 #[vU (b:Int),vI s] w (.tuple #[.agg #[.bool (uN g n b),vI (cl n (mg g b)),vU ((uM n f (mg g b):Nat):Int),vI (uE n f L (mg g b))],vI 0]):=by
 rcases h with ⟨rfl,rfl,rfl,rfl,rfl,rfl⟩ | ⟨rfl,rfl,rfl,rfl,rfl,rfl⟩
 · exact runp_32 hb w
 · exact runp_64 hb w
def Qt (X Y q r a b:Nat):Prop:=r<Y * 2 ^ b∧q * (Y * 2 ^ b)+r=X * 2 ^ a∧(a:Int) - (b:Int)=63+(bl Y:Int) - (bl X:Int)
theorem Qt.none {Y q r a b:Nat}(y0:Y ≠ 0) (h:Qt 0 Y q r a b):q=0∧r=0:=by
 obtain ⟨h1,h2,h3⟩:=h
 rw [Nat.zero_mul] at h2
 have p:=Nat.mul_pos (Nat.pos_of_ne_zero y0) (Nat.two_pow_pos b)
 rcases Nat.eq_zero_or_pos q with c | c
 · exact ⟨c,by omega⟩
 · have:=Nat.mul_pos c p;omega
theorem mt_nought (f:Nat):mt f 0=0:=by unfold mt;rw [if_pos (Nat.zero_div _)]
theorem xp_nought (f:Nat) (L:Int):xp f L 0=L:=by unfold xp;rw [if_pos (Nat.zero_div _)]
end Go.Proofs.YteeobndfnkeldaaGreatDoor
