/-
  Holds: UEx1 UEx3 UEx3c UEx4.
-/
import Derived.Laws.BitsAllLaws
import Derived.Test.YtejgpbhionadbaaGreatDoorChecked
import Derived.Lib.ItoaNum
import Derived.Laws.Externs
import Derived.WalkKit
import Derived.WalkSpells
import Derived.WalkLawsBesides
import Derived.Lib.Mul64
import Derived.Lib.TrailingZeros
import Derived.Deep.OwnRows
import Derived.Laws.CopyOwn
import Derived.BigQuiet
import Derived.Deep.RegionHeld3
import Derived.Deep.LoopGhost
import Derived.Deep.AppendLies
import Derived.Deep.DeepCutAuto
import Derived.Stop.Asserts
import Derived.RowKitTokens
import Derived.Lib.Strings
import Derived.Lib.BufferWrite
import Derived.Lib.ConvBytes
import Derived.Test.YtejgpbhionadbaaGreatDoorXg3
set_option maxRecDepth 100000
set_option maxHeartbeats 4000000
namespace Go.Proofs.YtejgpbhionadbaaGreatDoor
open Go.RowKit
def B:Nat:=18446744073709551616
theorem B_pos:0<B:=by decide
theorem Bp_pos (n:Nat):0<B ^ n:=Nat.pow_pos B_pos
def V (f:Nat → Nat):Nat → Nat
 | 0=>0
 | n+1=>V f n+f n * B ^ n
def Ws (f:Nat → Nat):Prop:=∀ i,f i<B
theorem V_zero (f:Nat → Nat):V f 0=0:=rfl
theorem V_succ (f:Nat → Nat) (n:Nat):V f (n+1)=V f n+f n * B ^ n:=rfl
theorem V_congr {f g:Nat → Nat}:∀ {n:Nat},(∀ i,i<n → f i=g i) → V f n=V g n
 | 0,_=>rfl
 | n+1,h=>by rw [V_succ,V_succ,V_congr (fun i hi=>h i (by omega)),h n (by omega)]
theorem V_lt {f : Nat → Nat} (hf : Ws f) : ∀ n, V f n < B ^ n
  | 0 => by rw [V_zero, Nat.pow_zero]; decide
  | n + 1 => by
    have a := V_lt hf n
    have b := hf n
    have c : (f n + 1) * B ^ n ≤ B * B ^ n := Nat.mul_le_mul_right _ b
    rw [V_succ, Nat.pow_succ]
    rw [Nat.add_mul, Nat.one_mul] at c
    rw [Nat.mul_comm (B ^ n) B]
    omega
theorem V_ge {f:Nat → Nat}{n:Nat}(h:f n ≠ 0):B ^ n≤V f (n+1):=by
 have a:1 * B ^ n≤f n * B ^ n:=Nat.mul_le_mul_right _ (by omega)
 rw [V_succ];omega
theorem split_gen {u v x p q:Nat}:u+v * p+x * (p * q)=u+(v+x * q) * p:=by grind
theorem V_split (f : Nat → Nat) (a : Nat) : ∀ b, V f (a + b) = V f a + V (fun i => f (a + i)) b * B ^ a
  | 0 => by rw [V_zero, Nat.zero_mul]; rfl
  | b + 1 => by
    have e := V_split f a b
    rw [← Nat.add_assoc, V_succ, e, V_succ, Nat.pow_add]
    exact split_gen
theorem V_zeros {f : Nat → Nat} {m : Nat} : ∀ {n : Nat}, m ≤ n → (∀ i, m ≤ i → i < n → f i = 0) → V f n = V f m
  | 0, h, _ => by
    have e : m = 0 := by omega
    rw [e]
  | n + 1, h, z => by
    by_cases e : m = n + 1
    · rw [e]
    · rw [V_succ, z n (by omega) (by omega), Nat.zero_mul, Nat.add_zero]
      exact V_zeros (by omega) (fun i a b => z i a (by omega))
theorem V_nought (n:Nat):V (fun _=>0) n=0:=V_zeros (f:=fun _=>0) (Nat.zero_le n) (fun _ _ _=>rfl)
def Top (f:Nat → Nat) (n:Nat):Prop:=n=0 ∨ f (n - 1) ≠ 0
theorem Top_ge {f:Nat → Nat}{n:Nat}(h:Top f n) (hn:0<n):B ^ (n - 1)≤V f n:=by
 rcases h with h | h
 · omega
 · have:=V_ge h
   rw [show n - 1+1=n by omega] at this
   exact this
theorem len_lt {f g:Nat → Nat}{m n:Nat}(hf:Ws f) (hg:Top g n) (h:m<n):V f m<V g n:=by
 have a:=V_lt hf m
 have b:=Top_ge hg (by omega)
 have c:B ^ m≤B ^ (n - 1):=Nat.pow_le_pow_right B_pos (by omega)
 omega
theorem len_le {f:Nat → Nat}{n k:Nat}(t:Top f n) (h:V f n<B ^ k):n≤k:=by
 by_cases c:n≤k
 · exact c
 · exfalso
   have a:=Top_ge t (by omega)
   have b:B ^ k≤B ^ (n - 1):=Nat.pow_le_pow_right B_pos (by omega)
   omega
def tl (f:Nat → Nat):Nat → Nat
 | 0=>0
 | n+1=>if f n=0 then tl f n else n+1
theorem tl_le (f : Nat → Nat) : ∀ n, tl f n ≤ n
  | 0 => Nat.le_refl _
  | n + 1 => by
    unfold tl
    split
    · have := tl_le f n; omega
    · exact Nat.le_refl _
theorem tl_top (f : Nat → Nat) : ∀ n, Top f (tl f n)
  | 0 => Or.inl rfl
  | n + 1 => by
    unfold tl
    split
    · exact tl_top f n
    · exact Or.inr (by simpa using ‹_›)
theorem tl_V (f : Nat → Nat) : ∀ n, V f (tl f n) = V f n
  | 0 => rfl
  | n + 1 => by
    unfold tl
    split
    · rename_i h; rw [tl_V f n, V_succ, h, Nat.zero_mul, Nat.add_zero]
    · rfl
theorem tl_zero {f:Nat → Nat}{n:Nat}(h:f n=0):tl f (n+1)=tl f n:=by
 show (if f n=0 then tl f n else n+1)=_
 rw [if_pos h]
theorem tl_stop {f:Nat → Nat}{n:Nat}(h:f n ≠ 0):tl f (n+1)=n+1:=by
 show (if f n=0 then tl f n else n+1)=_
 rw [if_neg h]
def ord (x y:Nat):Int:=if x<y then -1 else if y<x then 1 else 0
theorem ord_lt {x y:Nat}(h:x<y):ord x y = -1:=by unfold ord;rw [if_pos h]
theorem ord_gt {x y:Nat}(h:y<x):ord x y=1:=by unfold ord;rw [if_neg (by omega),if_pos h]
theorem ord_eq {x y:Nat}(h:x=y):ord x y=0:=by unfold ord;rw [if_neg (by omega),if_neg (by omega)]
theorem V_lt_at {f g : Nat → Nat} (hf : Ws f) {k : Nat} (hk : f k < g k) : ∀ {n : Nat}, k < n → (∀ j, k < j → j < n → f j = g j) → V f n < V g n
  | 0, h, _ => absurd h (by omega)
  | n + 1, h, e => by
    by_cases c : k = n
    · subst c
      have a := V_lt hf k
      have b : (f k + 1) * B ^ k ≤ g k * B ^ k := Nat.mul_le_mul_right _ hk
      rw [V_succ, V_succ]
      rw [Nat.add_mul, Nat.one_mul] at b
      omega
    · have i := V_lt_at hf hk (n := n) (by omega) (fun j a b => e j a (by omega))
      rw [V_succ, V_succ, e n (by omega) (by omega)]
      omega
def put (f:Nat → Nat) (k x:Nat):Nat → Nat:=fun i=>if i=k then x else f i
theorem put_at (f:Nat → Nat) (k x:Nat):put f k x k=x:=by unfold put;rw [if_pos rfl]
theorem put_ne {f:Nat → Nat}{k x i:Nat}(h:i ≠ k):put f k x i=f i:=by unfold put;rw [if_neg h]
theorem put_Ws {f:Nat → Nat}{k x:Nat}(hf:Ws f) (hx:x<B):Ws (put f k x):=by
 intro i;unfold put;split
 · exact hx
 · exact hf i
theorem V_put_low {f:Nat → Nat}{k x n:Nat}(h:n≤k):V (put f k x) n=V f n:=V_congr fun i hi=>put_ne (by omega)
theorem sum_gen {β v a b p x y c q r:Nat}(h:v+c * p=a+b) (e:β * q+r=x+y+c):v+r * p+q * (p * β)=a+x * p+(b+y * p):=by
 have:r * p+q * (p * β)=(β * q+r) * p:=by grind
 rw [e] at this
 grind
theorem sum_step {v a b p x y c:Nat}(h:v+c * p=a+b):v+(x+y+c) % B * p+(x+y+c) / B * (p * B)=a+x * p+(b+y * p) :=
 sum_gen h (Nat.div_add_mod (x+y+c) B)
theorem sub_step {β v a b p x y c l d:Nat}(h:v+b=a+c * p) (hl:l+y+c=x+d * β):v+l * p+(b+y * p)=a+x * p+d * (p * β):=by
 have:l * p+y * p+c * p=x * p+d * (p * β):=by
  have e:(l+y+c) * p=(x+d * β) * p:=by rw [hl]
  grind
 omega
theorem pow_cast (s:Nat):((2:Int) ^ s)=((2 ^ s:Nat):Int):=by push_cast;rfl
theorem shl_or (a c s:Nat) (h1:s≤64) (hc:c<2 ^ s):(a * 2 ^ s % 18446744073709551616) ||| c=(a * 2 ^ s+c) % 18446744073709551616:=by
 have p2:2 ^ (64 - s) * 2 ^ s=18446744073709551616:=by rw [← Nat.pow_add,show 64 - s+s=64 by omega]
 have e:a * 2 ^ s % 18446744073709551616=2 ^ s * (a % 2 ^ (64 - s)):=by
  rw [← p2,Nat.mul_mod_mul_right,Nat.mul_comm]
 have l:2 ^ s * (a % 2 ^ (64 - s))+c<18446744073709551616:=by
  have q:a % 2 ^ (64 - s)+1≤2 ^ (64 - s):=Nat.mod_lt _ (Nat.pow_pos (by omega))
  have r:=Nat.mul_le_mul_left (2 ^ s) q
  rw [Nat.mul_add,Nat.mul_comm (2 ^ s) (2 ^ (64 - s)),p2] at r
  omega
 rw [e,← Nat.two_pow_add_eq_or_of_lt hc,Nat.add_mod,e]
 have c2:c<18446744073709551616:=by omega
 rw [Nat.mod_eq_of_lt c2,Nat.mod_eq_of_lt l]
structure Sl (w:World) (ao:Option Addr) (n c:Nat) (b o:Nat) (f:Nat → Nat):Prop where
 le:n≤c
 cap:c≤maxLen
 addr:0<n → ao=some ⟨b,o,none⟩
 blk:0<n → b<w.heap.size
 cell:∀ i,i<n → w.cell? ⟨b,o+i,none⟩=some (vU (f i:Int))
 ws:Ws f
theorem Sl.below {w w':World}{ao:Option Addr}{n c b o:Nat}{f:Nat → Nat}(S:Sl w ao n c b o f) (hb:Bl w w'):Sl w' ao n c b o f :=
 ⟨S.le,S.cap,S.addr,fun h=>Nat.lt_of_lt_of_le (S.blk h) hb.size,fun i hi=>(hb.cell (p:=⟨b,o+i,none⟩) (S.blk (by omega))).trans (S.cell i hi),S.ws⟩
structure Row (w:World) (g N:Nat) (F:Nat → Nat):Prop where
 row:w.rowIs g 31 N (fun i=>vU (F i:Int))
 ws:Ws F
theorem Row.set {w:World}{g N:Nat}{F:Nat → Nat}(R:Row w g N F) (i:Nat) {r:Nat}(hr:r<B):Row (w.setCell ⟨g,i,none⟩ (vU (r:Int))) g N (put F i r):=by
 refine ⟨(R.row.set i (vU (r:Int))).congr fun j hj=>?_,put_Ws R.ws hr⟩
 unfold put
 by_cases c:j=i
 · rw [if_pos c,if_pos c]
 · rw [if_neg c,if_neg c]
theorem Row.drew {w:World}{g N:Nat}{F:Nat → Nat}(R:Row w g N F):Row w.drew g N F:=⟨R.row.drew,R.ws⟩
theorem Row.kept {w w':World}{g g' N:Nat}{F:Nat → Nat}(R:Row w g N F) (h:w.grownBy w' (some g')) (hne:g ≠ g'):Row w' g N F :=
 ⟨R.row.of_block (h.block g R.row.lt (fun e=>hne (Option.some.inj e))),R.ws⟩
theorem Row.below {w w':World}{g N:Nat}{F:Nat → Nat}(R:Row w g N F) (h:Bl w w'):Row w' g N F :=
 ⟨R.row.of_block (h.block g R.row.lt),R.ws⟩
theorem Sl.kept {w w':World}{ao:Option Addr}{n c b o g:Nat}{f:Nat → Nat}(S:Sl w ao n c b o f) (h:w.grownBy w' (some g)) (hne:0<n → b ≠ g):Sl w' ao n c b o f :=
 ⟨S.le,S.cap,S.addr,fun q=>Nat.lt_of_lt_of_le (S.blk q) h.size,fun i hi=>by
  rw [World.cell?_of_block (w:=w) (h.block b (S.blk (by omega)) (fun e=>hne (by omega) (Option.some.inj e)))];exact S.cell i hi,S.ws⟩
theorem grown_set {w wr:World}{g i:Nat}(h:w.grownBy wr (some g)) (v:Value):w.grownBy (wr.setCell ⟨g,i,none⟩ v) (some g) :=
 ⟨h.os,h.tape,h.output,by rw [World.size_setCell];exact h.size,fun k hk hne=>(Below.heap_setCell _ _ _ _ (fun e=>hne (by rw [e]))).trans (h.block k hk hne)⟩
theorem times_step {β v a b p x y z c l:Nat}(h:v+c * p=a+b * x) {d:Nat}(e:l+d * β=x * y+z+c):v+l * p+d * (p * β)=a+z * p+(b+y * p) * x:=by
 have:l * p+d * (p * β)=(x * y+z+c) * p:=by rw [← e];grind
 grind
theorem info_u64:(Tryz.prog.info? 31).map (fun i=>(i.zero,i.size,i.bytes))=some (some (vU 0),1,8):=by kernel_rfl
def NatV (w:World) (v:Value) (X:Nat):Prop:=∃ ao n c b o f,v=.slice ao n c∧Sl w ao n c b o f∧Top f n∧V f n=X∧n≤128
theorem NatV.below {w w':World}{v:Value}{X:Nat}(h:NatV w v X) (hb:Bl w w'):NatV w' v X:=by
 obtain ⟨ao,n,c,b,o,f,e,S,r⟩:=h
 exact ⟨ao,n,c,b,o,f,e,S.below hb,r⟩
theorem split_gen2 {u t v p q:Nat}:u+t * p+v * (p * q)=u+(t+v * q) * p:=by grind
theorem mult_gen {a b x p s t v q u:Nat}(h:t+v * q=s+b * x) (e:u+s * p=a * b):u+(t+v * q) * p=(a+x * p) * b:=by
 rw [h];grind
theorem B_pow (q:Nat):B ^ q=2 ^ (64 * q):=by
 rw [Nat.pow_mul];rfl
theorem B_part {p:Nat}(hp:p≤64):2 ^ (64 - p) * 2 ^ p=B:=by rw [← Nat.pow_add,show 64 - p+p=64 by omega];rfl
theorem up_room {x z p:Nat}(hp:p≤64) (hz:z<2 ^ p):x * 2 ^ p % B+z<B:=by
 have e:x * 2 ^ p % B=2 ^ p * (x % 2 ^ (64 - p)):=by rw [← B_part hp,Nat.mul_mod_mul_right,Nat.mul_comm]
 have q:x % 2 ^ (64 - p)+1≤2 ^ (64 - p):=Nat.mod_lt _ (Nat.pow_pos (by omega))
 have r:=Nat.mul_le_mul_left (2 ^ p) q
 rw [Nat.mul_add,Nat.mul_comm (2 ^ p) (2 ^ (64 - p)),B_part hp] at r
 omega
theorem up_lo {x z p:Nat}(hp:p≤64) (hz:z<2 ^ p):bits .or .u64 (z:Int) (IntKind.u64.wrap ((x:Int) * 2 ^ p))=((x * 2 ^ p % B+z:Nat):Int):=by
 have hzB:z<18446744073709551616:=Nat.lt_of_lt_of_le hz (by have:(2:Nat) ^ p≤2 ^ 64:=Nat.pow_le_pow_right (by omega) hp;exact this)
 have e:IntKind.u64.wrap ((x:Int) * 2 ^ p)=((x * 2 ^ p % 18446744073709551616:Nat):Int):=by
  rw [IntKind.wrap_u64,pow_cast,← Int.natCast_mul];rfl
 have o:=shl_or x z p (by omega) hz
 have r:=up_room (x:=x) hp hz
 rw [e,bits_or_u64_nat z _ hzB (Nat.mod_lt _ (by omega)),Nat.or_comm,o]
 unfold B at *
 congr 1
 generalize x * 2 ^ p=y at *
 omega
theorem Row.alloc {w:World}{g N:Nat}{F:Nat → Nat}(R:Row w g N F) (o:Obj):Row (w.alloc o) g N F:=⟨R.row.alloc o,R.ws⟩
theorem natv_nil (w:World):NatV w (.slice none 0 0) 0 :=
 ⟨none,0,0,0,0,fun _=>0,rfl,⟨Nat.le_refl _,Nat.zero_le _,fun h=>absurd h (by omega),fun h=>absurd h (by omega),fun i h=>absurd h (by omega),fun _=>B_pos⟩,Or.inl rfl,rfl,by omega⟩
def bl (X:Nat):Nat:=if X=0 then 0 else Nat.log2 X+1
theorem bl_of {X L:Nat}(h1:2 ^ L≤X) (h2:X<2 ^ (L+1)):bl X=L+1:=by
 have hp:0<2 ^ L:=Nat.pow_pos (by omega)
 have h0:X ≠ 0:=by omega
 unfold bl
 rw [if_neg h0,(Nat.log2_eq_iff h0).2 ⟨h1,h2⟩]
theorem bl_lt (X:Nat):X<2 ^ bl X:=by
 unfold bl
 split
 · rename_i h;rw [h];decide
 · exact Nat.lt_log2_self
theorem bl_le {X:Nat}(h:X ≠ 0):2 ^ (bl X - 1)≤X:=by
 unfold bl
 rw [if_neg h,Nat.add_sub_cancel]
 exact Nat.log2_self_le h
theorem bl_pos {X:Nat}(h:X ≠ 0):0<bl X:=by unfold bl;rw [if_neg h];omega
theorem bl_zero:bl 0=0:=rfl
theorem bl_mono_le {X L:Nat}(h:X<2 ^ L):bl X≤L:=by
 by_cases z:X=0
 · subst z;rw [bl_zero];omega
 · rcases Nat.lt_or_ge L (bl X) with q | q
   · have a:=bl_le z
     have b:2 ^ L≤2 ^ (bl X - 1):=Nat.pow_le_pow_right (by omega) (by omega)
     omega
   · exact q
structure ShB (w W:World) (a b c d:Value):Prop where
 sz:w.heap.size+1≤W.heap.size
 bel:Bl w W
 a0:W.cell? ⟨w.heap.size,0,none⟩=some a
 a1:W.cell? ⟨w.heap.size,1,none⟩=some b
 a2:W.cell? ⟨w.heap.size,2,none⟩=some c
 a3:W.cell? ⟨w.heap.size,3,none⟩=some d
theorem ShB.step {w W W':World}{a b c d:Value}(h:ShB w W a b c d) (hb:Bl W W'):ShB w W' a b c d:=by
 have z:=h.sz
 have k:∀ o,W'.cell? ⟨w.heap.size,o,none⟩=W.cell? ⟨w.heap.size,o,none⟩:=fun o=>hb.cell (p:=⟨w.heap.size,o,none⟩) (by show w.heap.size<W.heap.size;omega)
 exact ⟨Nat.le_trans z hb.size,h.bel.trans (hb.mono (by omega)),(k 0).trans h.a0,(k 1).trans h.a1,(k 2).trans h.a2,(k 3).trans h.a3⟩
theorem ShB.drew {w W:World}{a b c d:Value}(h:ShB w W a b c d):ShB w W.drew a b c d:=h.step (Below.refl _ _).drew
structure FlB (W:World) (K:Nat) (a b c d:Value):Prop where
 lt:K<W.heap.size
 a0:W.cell? ⟨K,0,none⟩=some a
 a1:W.cell? ⟨K,1,none⟩=some b
 a2:W.cell? ⟨K,2,none⟩=some c
 a3:W.cell? ⟨K,3,none⟩=some d
 f0:W.frozen? ⟨K,0,none⟩=false
 f1:W.frozen? ⟨K,1,none⟩=false
 f2:W.frozen? ⟨K,2,none⟩=false
 f3:W.frozen? ⟨K,3,none⟩=false
theorem FlB.step {W W':World}{K:Nat}{a b c d:Value}(h:FlB W K a b c d) (hb:Bl W W'):FlB W' K a b c d:=by
 have k:=fun o=>hb.cell (p:=⟨K,o,none⟩) h.lt
 have j:=fun o=>hb.frozen (p:=⟨K,o,none⟩) h.lt
 exact ⟨Nat.lt_of_lt_of_le h.lt hb.size,(k 0).trans h.a0,(k 1).trans h.a1,(k 2).trans h.a2,(k 3).trans h.a3,(j 0).trans h.f0,(j 1).trans h.f1,(j 2).trans h.f2,(j 3).trans h.f3⟩
theorem FlB.new (W:World) (a b c d:Value) (T:TypeId):FlB (W.alloc (.cells #[a,b,c,d] T)) W.heap.size a b c d :=
 ⟨by simp,by simp,by simp,by simp,by simp,World.frozen?_alloc_new _ _ _ _,World.frozen?_alloc_new _ _ _ _,World.frozen?_alloc_new _ _ _ _,World.frozen?_alloc_new _ _ _ _⟩
theorem FlB.drew {W:World}{K:Nat}{a b c d:Value}(h:FlB W K a b c d):FlB W.drew K a b c d:=h.step (Below.refl _ _).drew
theorem FlB.set3 {W:World}{K:Nat}{a b c d:Value}(h:FlB W K a b c d) (v:Value):FlB (W.setCell ⟨K,3,none⟩ v) K a b c v:=by
 obtain ⟨z,a0,a1,a2,a3,f0,f1,f2,f3⟩:=h
 exact ⟨by simpa using z,(World.cell?_setCell_other _ ⟨K,3,none⟩ ⟨K,0,none⟩ v (by intro e;cases e)).trans a0,(World.cell?_setCell_other _ ⟨K,3,none⟩ ⟨K,1,none⟩ v (by intro e;cases e)).trans a1,(World.cell?_setCell_other _ ⟨K,3,none⟩ ⟨K,2,none⟩ v (by intro e;cases e)).trans a2,World.cell?_setCell_same _ _ _ a3,(World.frozen?_setCell ..).trans f0,(World.frozen?_setCell ..).trans f1,(World.frozen?_setCell ..).trans f2,(World.frozen?_setCell ..).trans f3⟩
theorem rfrac_32 (w:World):Cs 31 #[vI 32] w (vI 23):=by
 go_enter Tryz.func31,Tryz.ntmps31
 go_wp2
 go_ret
 exact ⟨rfl,rfl⟩
theorem rtop_32 (w:World):Cs 58 #[vI 32] w (vU 255):=by
 go_enter Tryz.func58,Tryz.ntmps58
 go_wp2
 go_ret
 exact ⟨rfl,rfl⟩
theorem rsign_32 (w:World):Cs 32 #[vI 32] w (vU 2147483648):=by
 go_enter Tryz.func32,Tryz.ntmps32
 go_wp2
 go_ret
 exact ⟨rfl,rfl⟩
theorem rsize_32 (w:World):Cs 13 #[vI 32] w (.bool true):=by
 go_enter Tryz.func13,Tryz.ntmps13
 go_wp2
 go_ret
 exact ⟨rfl,rfl⟩
theorem rinf_32 (w:World):Cs 30 #[vI 32] w (vU 2139095040):=by
 have H1:=fun W=>rtop_32 W
 have H2:=fun W=>rfrac_32 W
 go_enter Tryz.func30,Tryz.ntmps30
 go_wp2_with fail
 refine (H1 _).mono ?_
 rintro e w ⟨rfl,rfl⟩
 go_wp2_with fail
 refine (H2 _).mono ?_
 rintro e w ⟨rfl,rfl⟩
 go_wp2
 go_ret
 exact ⟨rfl,rfl⟩
theorem rInf_32 (w:World):Cs 17 #[vI 32] w (vU 2139095040):=by
 have H1:=fun W=>rinf_32 W
 go_enter Tryz.func17,Tryz.ntmps17
 go_wp2_with fail
 refine (H1 _).mono ?_
 rintro e w ⟨rfl,rfl⟩
 go_wp2
 go_ret
 exact ⟨rfl,rfl⟩
theorem rmag_32 {b:Nat}(h:b<4294967296) (w:World):Cs 16 #[vU (b:Int),vI 32] w (vU ((mg 2147483648 b:Nat):Int)):=by
 have hA:=andNot_32 b h
 have H1:=fun W=>rsign_32 W
 clear h
 go_enter Tryz.func16,Tryz.ntmps16
 go_wp2_with fail
 refine (H1 _).mono ?_
 rintro e w ⟨rfl,rfl⟩
 go_wp2
 go_ret
 exact ⟨rfl,rfl⟩
theorem rsigned_32 {x:Nat}(h:x<2147483648) (c:Bool) (w:World):Cs 18 #[.bool c,vU (x:Int),vI 32] w (vU ((sgd 2147483648 c x:Nat):Int)):=by
 have hA:=or_sign_32 h
 have HS:=fun W=>rsign_32 W
 clear h
 cases c
 · go_enter Tryz.func18,Tryz.ntmps18
   go_wp2
   go_ret
   exact ⟨rfl,rfl⟩
 · go_enter Tryz.func18,Tryz.ntmps18
   go_wp2_with fail
   refine (HS _).mono ?_
   rintro e w ⟨rfl,rfl⟩
   go_wp2
   go_ret
   exact ⟨rfl,rfl⟩
theorem rfrac_64 (w:World):Cs 31 #[vI 64] w (vI 52):=by
 go_enter Tryz.func31,Tryz.ntmps31
 go_wp2
 go_ret
 exact ⟨rfl,rfl⟩
theorem rtop_64 (w:World):Cs 58 #[vI 64] w (vU 2047):=by
 go_enter Tryz.func58,Tryz.ntmps58
 go_wp2
 go_ret
 exact ⟨rfl,rfl⟩
theorem rsign_64 (w:World):Cs 32 #[vI 64] w (vU 9223372036854775808):=by
 go_enter Tryz.func32,Tryz.ntmps32
 go_wp2
 go_ret
 exact ⟨rfl,rfl⟩
theorem rsize_64 (w:World):Cs 13 #[vI 64] w (.bool true):=by
 go_enter Tryz.func13,Tryz.ntmps13
 go_wp2
 go_ret
 exact ⟨rfl,rfl⟩
theorem rinf_64 (w:World):Cs 30 #[vI 64] w (vU 9218868437227405312):=by
 have H1:=fun W=>rtop_64 W
 have H2:=fun W=>rfrac_64 W
 go_enter Tryz.func30,Tryz.ntmps30
 go_wp2_with fail
 refine (H1 _).mono ?_
 rintro e w ⟨rfl,rfl⟩
 go_wp2_with fail
 refine (H2 _).mono ?_
 rintro e w ⟨rfl,rfl⟩
 go_wp2
 go_ret
 exact ⟨rfl,rfl⟩
theorem rInf_64 (w:World):Cs 17 #[vI 64] w (vU 9218868437227405312):=by
 have H1:=fun W=>rinf_64 W
 go_enter Tryz.func17,Tryz.ntmps17
 go_wp2_with fail
 refine (H1 _).mono ?_
 rintro e w ⟨rfl,rfl⟩
 go_wp2
 go_ret
 exact ⟨rfl,rfl⟩
theorem rmag_64 {b:Nat}(h:b<18446744073709551616) (w:World):Cs 16 #[vU (b:Int),vI 64] w (vU ((mg 9223372036854775808 b:Nat):Int)):=by
 have hA:=andNot_64 b h
 have H1:=fun W=>rsign_64 W
 clear h
 go_enter Tryz.func16,Tryz.ntmps16
 go_wp2_with fail
 refine (H1 _).mono ?_
 rintro e w ⟨rfl,rfl⟩
 go_wp2
 go_ret
 exact ⟨rfl,rfl⟩
theorem rsigned_64 {x:Nat}(h:x<9223372036854775808) (c:Bool) (w:World):Cs 18 #[.bool c,vU (x:Int),vI 64] w (vU ((sgd 9223372036854775808 c x:Nat):Int)):=by
 have hA:=or_sign_64 h
 have HS:=fun W=>rsign_64 W
 clear h
 cases c
 · go_enter Tryz.func18,Tryz.ntmps18
   go_wp2
   go_ret
   exact ⟨rfl,rfl⟩
 · go_enter Tryz.func18,Tryz.ntmps18
   go_wp2_with fail
   refine (HS _).mono ?_
   rintro e w ⟨rfl,rfl⟩
   go_wp2
   go_ret
   exact ⟨rfl,rfl⟩
theorem rsize_no {s:Int}(h:Sn s) (w:World):Cs 13 #[vI s] w (.bool false):=by
 have p1:(s == 32)=false:=by simpa using h.1
 have p2:(s == 64)=false:=by simpa using h.2
 clear h
 go_enter Tryz.func13,Tryz.ntmps13
 go_wp2
 go_ret
 exact ⟨rfl,rfl⟩
def Fz (s:Int) (g n f T:Nat) (L:Int):Prop :=
 (s=32∧g=2147483648∧n=2139095040∧f=23∧T=255∧L = -149) ∨ (s=64∧g=9223372036854775808∧n=9218868437227405312∧f=52∧T=2047∧L = -1074)
structure GrB (W:World) (K:Nat) (a b c:Value):Prop where
 lt:K<W.heap.size
 a0:W.cell? ⟨K,0,none⟩=some a
 a1:W.cell? ⟨K,1,none⟩=some b
 a2:W.cell? ⟨K,2,none⟩=some c
 f0:W.frozen? ⟨K,0,none⟩=false
 f1:W.frozen? ⟨K,1,none⟩=false
 f2:W.frozen? ⟨K,2,none⟩=false
theorem GrB.step {W W':World}{K:Nat}{a b c:Value}(h:GrB W K a b c) (hb:Bl W W'):GrB W' K a b c:=by
 have k:=fun o=>hb.cell (p:=⟨K,o,none⟩) h.lt
 have j:=fun o=>hb.frozen (p:=⟨K,o,none⟩) h.lt
 exact ⟨Nat.lt_of_lt_of_le h.lt hb.size,(k 0).trans h.a0,(k 1).trans h.a1,(k 2).trans h.a2,(j 0).trans h.f0,(j 1).trans h.f1,(j 2).trans h.f2⟩
theorem GrB.new (W:World) (a b c:Value) (T:TypeId):GrB (W.alloc (.cells #[a,b,c] T)) W.heap.size a b c :=
 ⟨by simp,by simp,by simp,by simp,World.frozen?_alloc_new _ _ _ _,World.frozen?_alloc_new _ _ _ _,World.frozen?_alloc_new _ _ _ _⟩
theorem rinf_z {s:Int}{g n f T:Nat}{L:Int}(h:Fz s g n f T L) (w:World):Cs 17 #[vI s] w (vU ((T * 2 ^ f:Nat):Int)):=by
 rcases h with ⟨rfl,rfl,rfl,rfl,rfl,rfl⟩ | ⟨rfl,rfl,rfl,rfl,rfl,rfl⟩
 · exact rInf_32 w
 · exact rInf_64 w
def Qt (X Y q r a b:Nat):Prop:=r<Y * 2 ^ b∧q * (Y * 2 ^ b)+r=X * 2 ^ a∧(a:Int) - (b:Int)=63+(bl Y:Int) - (bl X:Int)
theorem Qt.none {Y q r a b:Nat}(y0:Y ≠ 0) (h:Qt 0 Y q r a b):q=0∧r=0:=by
 obtain ⟨h1,h2,h3⟩:=h
 rw [Nat.zero_mul] at h2
 have p:=Nat.mul_pos (Nat.pos_of_ne_zero y0) (Nat.two_pow_pos b)
 rcases Nat.eq_zero_or_pos q with c | c
 · exact ⟨c,by omega⟩
 · have:=Nat.mul_pos c p;omega
theorem rsize_z {s:Int}{g n f T:Nat}{L:Int}(h:Fz s g n f T L) (w:World):Cs 13 #[vI s] w (.bool true):=by
 rcases h with ⟨rfl,rfl,rfl,rfl,rfl,rfl⟩ | ⟨rfl,rfl,rfl,rfl,rfl,rfl⟩
 · exact rsize_32 w
 · exact rsize_64 w
end Go.Proofs.YtejgpbhionadbaaGreatDoor
