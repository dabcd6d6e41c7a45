/-
  Holds: UCp1.
-/
import Derived.Laws.BitsAllLaws
import Derived.Test.YtejgpbhionadbaaGreatDoorChecked
import Derived.Lib.ItoaNum
import Derived.Laws.Externs
import Derived.WalkKit
import Derived.WalkSpells
import Derived.WalkLawsBesides
import Derived.Lib.Mul64
import Derived.Lib.TrailingZeros
import Derived.Deep.OwnRows
import Derived.Laws.CopyOwn
import Derived.BigQuiet
import Derived.Deep.RegionHeld3
import Derived.Deep.LoopGhost
import Derived.Deep.AppendLies
import Derived.Deep.DeepCutAuto
import Derived.Stop.Asserts
import Derived.RowKitTokens
import Derived.Lib.Strings
import Derived.Lib.BufferWrite
import Derived.Lib.ConvBytes
import Derived.Test.YtejgpbhionadbaaGreatDoorRows
import Derived.Test.YtejgpbhionadbaaGreatDoorXl4
import Derived.Test.YtejgpbhionadbaaGreatDoorXl12
import Derived.Test.YtejgpbhionadbaaGreatDoorXl13
import Derived.Test.YtejgpbhionadbaaGreatDoorXl15
set_option maxRecDepth 100000
set_option maxHeartbeats 4000000
namespace Go.Proofs.YtejgpbhionadbaaGreatDoor
open Go.RowKit
theorem xG {x y c:Nat}(hx:x<B) (hy:y<B) (hc:c<=1):(x+y+c) / B<=1:=by
 unfold B at *;omega
def aZ:Nat -> Value
 | 0=>.nilIface
 | k+1=>.iface 63 (vI ((k+1:Nat):Int))
def bE (f:Nat -> Nat) (n:Nat):Nat:=if 128<n then 20 else if 0<n/\f (n - 1)=0 then 1 else 0
theorem cS {f:Nat -> Nat}{n:Nat}(h:n<=128) (t:Top f n):bE f n=0:=by
 unfold bE
 rw [if_neg (by omega),if_neg]
 rintro ⟨a,b⟩
 rcases t with t | t
 . omega
 . exact t b
theorem bV {w:World}{ao:Option Addr}{n c b o:Nat}{f:Nat -> Nat}(S:Sl w ao n c b o f) :
 Cb 225 #[.slice ao n c] w (aZ (bE f n)):=by
 have hn:n<=maxLen:=Nat.le_trans S.le S.cap
 unfold maxLen at hn
 by_cases c1:128<n
 . have e:aZ (bE f n)=.iface 63 (vI 20):=by unfold bE;rw [if_pos c1];rfl
   rw [e]
   clear e
   have c1':(128:Int)<(n:Int):=by omega
   go_enter Tryz.func225,Tryz.ntmps225
   go_wp2
   go_ret
   exact ⟨rfl,Below.refl _ _⟩
 . by_cases c2:0<n
   . obtain rfl:=S.addr c2
     have hc:=S.cell (n - 1) (by omega)
     by_cases c3:f (n - 1)=0
     . have e:aZ (bE f n)=.iface 63 (vI 1):=by unfold bE;rw [if_neg c1,if_pos ⟨c2,c3⟩];rfl
       rw [e]
       rw [c3] at hc
       clear e
       go_enter Tryz.func225,Tryz.ntmps225
       go_wp2
       go_ret
       exact ⟨rfl,Below.refl _ _⟩
     . have e:aZ (bE f n)=.nilIface:=by unfold bE;rw [if_neg c1,if_neg (fun x=>c3 x.2)];rfl
       rw [e]
       clear e
       have c3':(((f (n - 1):Nat):Int) == 0)=false:=beq_eq_false_iff_ne.mpr (by omega)
       go_enter Tryz.func225,Tryz.ntmps225
       go_wp2
       go_ret
       exact ⟨rfl,Below.refl _ _⟩
   . have e:aZ (bE f n)=.nilIface:=by unfold bE;rw [if_neg c1,if_neg (fun x=>c2 x.1)];rfl
     rw [e]
     clear e
     obtain rfl:n=0:=by omega
     go_enter Tryz.func225,Tryz.ntmps225
     go_wp2
     go_ret
     exact ⟨rfl,Below.refl _ _⟩
def lH (f:Nat -> Nat) (n:Nat) (g:Nat -> Nat) (m:Nat):Nat:=if bE f n=0 then bE g m else bE f n
theorem fM {f g:Nat -> Nat}{n m:Nat}(h:n<=128) (t:Top f n) (h':m<=128) (t':Top g m):lH f n g m=0:=by
 unfold lH;rw [if_pos (cS h t),cS h' t']
theorem eZ       {w : World} {ao : Option Addr} {n c b o : Nat} {f : Nat → Nat} (S : Sl w ao n c b o f) {ao' : Option Addr} {n' c' b' o' : Nat} {f' : Nat → Nat} (S' : Sl w ao' n' c' b' o' f') :
    Calls Tryz.prog 229 #[.slice ao n c, .slice ao' n' c'] w fun e w' => e = .returned (aZ   (lH    f n f' n')) ∧ Below w.heap.size w w' := by
  have h1 := bV        S
  cases q : bE   f n with
  | zero =>
    rw [q] at h1
    have e : lH    f n f' n' = bE   f' n' := by unfold lH   ; rw [if_pos q]
    rw [e]
    clear q e
    go_enter Tryz.func229, Tryz.ntmps229
    go_wp2_with fail
    refine h1.mono ?_
    rintro e wa ⟨rfl, hba⟩
    unfold aZ
    have S2 := S'.below hba
    go_wp2_with fail
    refine (bV        S2).mono ?_
    rintro e wb ⟨rfl, hbb⟩
    go_wp2
    go_ret
    exact ⟨rfl, hba.trans (hbb.mono hba.size)⟩
  | succ k =>
    rw [q] at h1
    have e : lH    f n f' n' = k + 1 := by unfold lH   ; rw [if_neg (by omega), q]
    rw [e]
    clear q e
    go_enter Tryz.func229, Tryz.ntmps229
    go_wp2_with fail
    refine h1.mono ?_
    rintro e wa ⟨rfl, hba⟩
    unfold aZ
    go_wp2
    go_ret
    exact ⟨rfl, hba⟩
theorem trim_any {w : World} {ao : Option Addr} {n c b o : Nat} {f : Nat → Nat} (S : Sl w ao n c b o f) :
    Calls Tryz.prog 227 #[.slice ao n c] w fun e w' => e = .returned (.slice ao (tl f n) (tl f n)) ∧ w' = w := by
  have hn : n ≤ maxLen := Nat.le_trans S.le S.cap
  have hnc := S.le
  unfold maxLen at hn
  have HS : Hid (Sl w ao n c b o f) := S
  clear S
  go_enter Tryz.func227, Tryz.ntmps227
  go_wp2
  go_loop [3] (fun i => ∃ k : Nat, i = .int .i64 k ∧ k ≤ n ∧ tl f n = tl f k) (fun i => (intOf i).toNat)
  case atStart => exact ⟨n, rfl, Nat.le_refl _, rfl⟩
  case round =>
    obtain ⟨k, rfl, hk, htl⟩ := hrel
    have HT : Hid (tl f n = tl f k) := htl
    clear htl
    by_cases c1 : 0 < k
    · obtain rfl := HS.out.addr (by omega)
      have hc := HS.out.cell (k - 1) (by omega)
      by_cases c3 : f (k - 1) = 0
      · rw [c3] at hc
        have HT2 : Hid (tl f n = tl f (k - 1)) := by
          have a := tB      (f := f) (n := k - 1) c3
          rw [show k - 1 + 1 = k by omega] at a
          exact HT.out.trans a
        clear c3
        go_wp2
        go_round
        case rel => exact ⟨k - 1, by go_num, by omega, HT2.out⟩
        case measure => simp [intOf]; omega
      · have c3' : (((f (k - 1) : Nat) : Int) == 0) = false := beq_eq_false_iff_ne.mpr (by omega)
        have HT2 : Hid (tl f n = k) := by
          have a := tA      (f := f) (n := k - 1) c3
          rw [show k - 1 + 1 = k by omega] at a
          exact HT.out.trans a
        clear c3
        go_wp2
        go_ret
        exact ⟨by rw [HT2.out]; rfl, rfl⟩
    · obtain rfl : k = 0 := by omega
      have HT2 : Hid (tl f n = 0) := HT.out
      clear HT c1
      cases ao with
      | none =>
        go_wp2
        go_ret
        exact ⟨by rw [HT2.out]; rfl, rfl⟩
      | some a =>
        go_wp2
        go_ret
        exact ⟨by rw [HT2.out]; rfl, rfl⟩
theorem hI {w:World}{ao:Option Addr}{n c b o:Nat}{f:Nat -> Nat}(S:Sl w ao n c b o f) (h:tl f n<=128) :
 Cs 238 #[.slice ao n c] w (.tuple #[.slice ao (tl f n) (tl f n),.nilIface]):=by
 generalize hm:tl f n=m at *
 have h1:=trim_any S
 rw [hm] at h1
 clear hm
 go_enter Tryz.func238,Tryz.ntmps238
 go_wp2_with fail
 refine h1.mono ?_
 rintro e wa ⟨rfl,rfl⟩
 go_wp2
 refine bodyPost_ret (v:=.tuple #[.slice ao m m,.nilIface]) (by simp [results,Tryz.results238,go_sem]) rfl ⟨rfl,rfl⟩
theorem aCs (a:Nat) (ha:a<18446744073709551616):bits .and .u64 (a:Int) 4294967295=((a % 4294967296:Nat):Int):=by
 have h:=bits_and_u64_nat a 4294967295 ha (by omega)
 have e:a &&& 4294967295=a % 4294967296:=Nat.and_two_pow_sub_one_eq_mod a 32
 rw [e] at h
 exact h
theorem aMA (a:Nat):(a:Int) / 4294967296=((a / 4294967296:Nat):Int):=by omega
theorem aGU (a b:Nat):(a:Int) * (b:Int)=((a * b:Nat):Int):=(Int.natCast_mul a b).symm
theorem aMz (a b:Nat):(a:Int)+(b:Int)=((a+b:Nat):Int):=(Int.natCast_add a b).symm
theorem iX (a:Nat) (ha:a<18446744073709551616):IntKind.u64.wrap (a:Int)=(a:Int):=by rw [IntKind.wrap_u64];omega
theorem aMu (a:Nat):IntKind.u64.wrap (a:Int)=((a % 18446744073709551616:Nat):Int):=by rw [IntKind.wrap_u64];omega
theorem aJt {x x' y y':Int}(hx:x=x') (hy:y=y'):Ending.returned (.tuple #[vU x,vU y])=.returned (.tuple #[vU x',vU y']):=by rw [hx,hy]
theorem uH (a b:Int) (h1:aD a) (h2:aD b) (w:World) :
 Cs 263 #[vU a,vU b] w (.tuple #[vU (mHi a b),vU (mLo a b)]):=by
 obtain ⟨x,rfl⟩:=Int.eq_ofNat_of_zero_le h1.1
 obtain ⟨y,rfl⟩:=Int.eq_ofNat_of_zero_le h2.1
 have hx:x<18446744073709551616:=by have:=h1.2;omega
 have hy:y<18446744073709551616:=by have:=h2.2;omega
 clear h1 h2
 obtain ⟨bd,bt,bw,hhi⟩:=Lib.mul64_hi x y hx hy
 have ba:=Lib.half_mul_le (a:=x / 4294967296) (b:=y / 4294967296) (by omega) (by omega)
 have bb:=Lib.half_mul_le (a:=x / 4294967296) (b:=y % 4294967296) (by omega) (by omega)
 have bc:=Lib.half_mul_le (a:=x % 4294967296) (b:=y / 4294967296) (by omega) (by omega)
 have ba':x / 4294967296 * (y / 4294967296)<18446744073709551616:=by omega
 have bb':x / 4294967296 * (y % 4294967296)<18446744073709551616:=by omega
 have bc':x % 4294967296 * (y / 4294967296)<18446744073709551616:=by omega
 have bh1:x / 4294967296 * (y / 4294967296)+(x / 4294967296 * (y % 4294967296)+x % 4294967296 * (y % 4294967296) / 4294967296) / 4294967296<18446744073709551616:=by omega
 have bh:x / 4294967296 * (y / 4294967296)+(x / 4294967296 * (y % 4294967296)+x % 4294967296 * (y % 4294967296) / 4294967296) / 4294967296+((x / 4294967296 * (y % 4294967296)+x % 4294967296 * (y % 4294967296) / 4294967296) % 4294967296+x % 4294967296 * (y / 4294967296)) / 4294967296<18446744073709551616:=by omega
 go_enter Tryz.func263,Tryz.ntmps263
 go_wp2
 simp only [aCs x hx,aCs y hy,aMA,aGU,aMz,iX _ bd,iX _ bb',iX _ bt,aCs _ bt,iX _ bc',iX _ bw,iX _ ba',iX _ bh1,iX _ bh,aMu (x * y)]
 rw [hhi]
 go_ret2
 exact ⟨aJt (by unfold mHi;rw [aGU];omega) (by unfold mLo;rw [aGU];omega),rfl⟩
theorem jA {w:World}{ao:Option Addr}{n c b o:Nat}{f:Nat -> Nat}(S:Sl w ao n c b o f) {ao':Option Addr}{n' c' b' o':Nat}{f':Nat -> Nat}(S':Sl w ao' n' c' b' o' f') (t:Top f n) (t':Top f' n') :
 Cb 268 #[.slice ao n c,.slice ao' n' c'] w (vI (ord (V f n) (V f' n'))):=by
 have hn:n<=maxLen:=Nat.le_trans S.le S.cap
 have hn':n'<=maxLen:=Nat.le_trans S'.le S'.cap
 unfold maxLen at hn hn'
 rcases Nat.lt_trichotomy n n' with d | d | d
 . have e:=jS (len_lt S.ws t' d)
   rw [e]
   have d1:((n:Int) == (n':Int))=false:=beq_eq_false_iff_ne.mpr (by omega)
   clear e
   go_enter Tryz.func268,Tryz.ntmps268
   go_wp2
   go_ret
   exact ⟨rfl,Below.refl _ _⟩
 . subst d
   have HS:Hid (Sl w ao n c b o f):=S
   have HS':Hid (Sl w ao' n c' b' o' f'):=S'
   clear S S' t t'
   go_enter Tryz.func268,Tryz.ntmps268
   go_wp2
   go_loopw [5] (fun i wr=>∃ k:Nat,i=vI ((k:Int) - 1)/\k<=n/\Bl w wr/\∀ j,k<=j -> j<n -> f j=f' j) (fun i _=>(intOf i+1).toNat)
   case atStart=>exact ⟨n,rfl,Nat.le_refl _,Below.refl _ _,fun j a b=>absurd a (by omega)⟩
   case round =>
    obtain ⟨k,rfl,hk,al,heq⟩:=hrel
    have HA:Hid (Bl w wr):=al
    have HE:Hid (∀ j,k<=j -> j<n -> f j=f' j):=heq
    clear heq
    by_cases c1:0<k
    . obtain rfl:=HS.out.addr (by omega)
      obtain rfl:=HS'.out.addr (by omega)
      have hc:=(HS.out.below al).cell (k - 1) (by omega)
      have hc':=(HS'.out.below al).cell (k - 1) (by omega)
      clear al
      have ix:((k:Int) - 1).toNat=k - 1:=by omega
      rcases Nat.lt_trichotomy (f (k - 1)) (f' (k - 1)) with q | q | q
      . have r:=jS (V_lt_at HS.out.ws q (n:=n) (by omega) (fun j a b=>HE.out j (by omega) b))
        have HR:Hid (ord (V f n) (V f' n) = -1):=r
        have q1:(((f (k - 1):Nat):Int) == ((f' (k - 1):Nat):Int))=false:=beq_eq_false_iff_ne.mpr (by omega)
        have q2:((f (k - 1):Nat):Int)<((f' (k - 1):Nat):Int):=by omega
        clear r q
        go_wp2
        go_region
        all_goals
         go_wp2
         all_goals
          try go_region
          all_goals
           try go_wp2
           go_ret
           first | exact ⟨by rw [HR.out];rfl,HA.out.drew⟩ | exact ⟨by rw [HR.out];rfl,HA.out.drew.drew⟩
      . have q1:(((f (k - 1):Nat):Int) == ((f' (k - 1):Nat):Int))=true:=beq_iff_eq.mpr (by omega)
        have HQ:Hid (f (k - 1)=f' (k - 1)):=q
        clear q
        go_wp2
        go_region
        all_goals
         go_wp2
         go_roundw
         case rel =>
          refine ⟨k - 1,by go_num,by omega,HA.out.drew,fun j a b=>?_⟩
          by_cases z:j=k - 1
          . rw [z];exact HQ.out
          . exact HE.out j (by omega) b
         case measure=>simp [intOf];omega
      . have r:=qW (V_lt_at HS'.out.ws q (n:=n) (by omega) (fun j a b=>(HE.out j (by omega) b).symm))
        have HR:Hid (ord (V f n) (V f' n)=1):=r
        have q1:(((f (k - 1):Nat):Int) == ((f' (k - 1):Nat):Int))=false:=beq_eq_false_iff_ne.mpr (by omega)
        have q2:¬ ((f (k - 1):Nat):Int)<((f' (k - 1):Nat):Int):=by omega
        clear r q
        go_wp2
        go_region
        all_goals
         go_wp2
         all_goals
          try go_region
          all_goals
           try go_wp2
           go_ret
           first | exact ⟨by rw [HR.out];rfl,HA.out.drew⟩ | exact ⟨by rw [HR.out];rfl,HA.out.drew.drew⟩
    . obtain rfl:k=0:=by omega
      have HR:Hid (ord (V f n) (V f' n)=0):=aEN (V_congr fun i hi=>HE.out i (Nat.zero_le _) hi)
      clear HE c1
      go_wp2
      go_ret
      exact ⟨by rw [HR.out];rfl,HA.out⟩
 . have e:=qW (len_lt S'.ws t d)
   rw [e]
   have d1:((n:Int) == (n':Int))=false:=beq_eq_false_iff_ne.mpr (by omega)
   clear e
   go_enter Tryz.func268,Tryz.ntmps268
   go_wp2
   go_ret
   exact ⟨rfl,Below.refl _ _⟩
theorem Row.sl {w:World}{g N:Nat}{F:Nat -> Nat}(R:Row w g N F) {o n c:Nat}(h:o+n<=N) (hc:n<=c) (hm:c<=maxLen):Sl w (some ⟨g,o,none⟩) n c g o (fun i=>F (o+i)) :=
 ⟨hc,hm,fun _=>rfl,fun _=>R.row.lt,fun i hi=>R.row.cell (by omega),fun i=>R.ws _⟩
theorem qG {w wr:World}{row:Option Nat}(h:w.grownBy wr row):w.grownBy wr.drew row:=⟨h.os,h.tape,h.output,h.size,h.block⟩
theorem jD {a b c:World}{row:Option Nat}(h:a.grownBy b row) (k:b.grownBy c row):a.grownBy c row :=
 ⟨k.os.trans h.os,k.tape.trans h.tape,k.output.trans h.output,Nat.le_trans h.size k.size,fun i hi hne=>(k.block i (Nat.lt_of_lt_of_le hi h.size) hne).trans (h.block i hi hne)⟩
theorem pT (x y c:Nat) (hx:x<B) (hy:y<B) (hc:c<=1) (w:World) :
 (callFunc 195 #[vU (x:Int),vU (y:Int),vU (c:Int)]).run Tryz.prog w=.ok (.value (.tuple #[vU (((x+y+c) % B:Nat):Int),vU (((x+y+c) / B:Nat):Int)])) w:=by
 unfold B at *
 rw [wE x y c ⟨by omega,by omega⟩ ⟨by omega,by omega⟩ (by omega) (by omega)]
 unfold lL a3C
 rfl
def dW (x y c:Nat):Nat:=(x+B - y - c) % B
def dC (x y c:Nat):Nat:=if x<y+c then 1 else 0
theorem aH0 (x y c:Nat):dW x y c<B:=Nat.mod_lt _ B_pos
theorem aHY (x y c:Nat):dC x y c<=1:=by unfold dC;split <;> omega
theorem aHZ {x y c:Nat}(hx:x<B) (hy:y<B) (hc:c<=1):dW x y c+y+c=x+dC x y c * B:=by
 unfold dW dC B at *;split <;> omega
theorem aFt (x y c:Nat) (hx:x<B) (hy:y<B) (hc:c<=1) (w:World) :
 (callFunc 279 #[vU (x:Int),vU (y:Int),vU (c:Int)]).run Tryz.prog w=.ok (.value (.tuple #[vU ((dW x y c:Nat):Int),vU ((dC x y c:Nat):Int)])) w:=by
 unfold dW dC B at *
 rw [aMn x y c ⟨by omega,by omega⟩ ⟨by omega,by omega⟩ (by omega) (by omega)]
 have e1:aAt (x:Int) y c=(((x+18446744073709551616 - y - c) % 18446744073709551616:Nat):Int):=by unfold aAt;omega
 have e2:s3B (x:Int) y c=((if x<y+c then 1 else 0:Nat):Int):=by unfold s3B;split <;> split <;> omega
 rw [e1,e2]
theorem wU {f g:Nat -> Nat}{k n a b:Nat}(hk:k<=n) (h:V f k+a=V g k+b) (e:∀ i,k<=i -> i<n -> f i=g i):V f n+a=V g n+b:=by
 have n1:n=k+(n - k):=by omega
 have s1:=V_split f k (n - k)
 have s2:=V_split g k (n - k)
 have c:V (fun i=>f (k+i)) (n - k)=V (fun i=>g (k+i)) (n - k):=V_congr fun i hi=>e (k+i) (by omega) (by omega)
 rw [<- n1] at s1 s2
 rw [s1,s2,c]
 omega
theorem lZ {w:World}{g N o n c:Nat}{F:Nat -> Nat}(R:Row w g N F) (hoN:o+n<=N) (hnc:n<=c) (hcm:c<=maxLen)
 {bo:Option Addr} {m cb bb ob:Nat} {G:Nat -> Nat} (S:Sl w bo m cb bb ob G) (hne:0<m -> bb ≠ g) (hmn:m<=n) (hfit:V (fun i=>F (o+i)) n+V G m<B ^ n) :
 Calls Tryz.prog 280 #[.slice (some ⟨g,o,none⟩) n c,.slice bo m cb] w fun e w'=>e=.returned (.tuple #[])/\w.grownBy w' (some g) /\
  ∃ F',Row w' g N F'/\(∀ i,i<o \/ o+n<=i -> F' i=F i)/\V (fun i=>F' (o+i)) n=V (fun i=>F (o+i)) n+V G m:=by
 have hm:m<=maxLen:=Nat.le_trans S.le S.cap
 unfold maxLen at hm hcm
 go_enter Tryz.func280,Tryz.ntmps280
 go_wp2
 have HS:Hid (Sl w bo m cb bb ob G):=S
 have HN:Hid (0<m -> bb ≠ g):=hne
 have HFIT:Hid (V (fun i=>F (o+i)) n+V G m<B ^ n):=hfit
 clear S hne hfit
 go_loopw [4,9] (fun cy i wr=>∃ (k x:Nat) (F':Nat -> Nat),cy=vU (x:Int)/\i=vI (k:Int)/\k<=m/\x<=1/\Row wr g N F'/\w.grownBy wr (some g)/\(∀ i,i<o \/ o+k<=i -> F' i=F i)/\V (fun i=>F' (o+i)) k+x * B ^ k=V (fun i=>F (o+i)) k+V G k) (fun _ i _=>m - (intOf i).toNat)
 case atStart=>exact ⟨0,0,F,rfl,rfl,Nat.zero_le _,by omega,R,World.grownBy.refl _ _,fun i _=>rfl,by simp [V]⟩
 case round =>
  obtain ⟨k,x,F',rfl,rfl,hk,hx,R',hgr,hfr,hv⟩:=hrel
  have HF:Hid (∀ i,i<o \/ o+k<=i -> F' i=F i):=hfr
  have HV:Hid (V (fun i=>F' (o+i)) k+x * B ^ k=V (fun i=>F (o+i)) k+V G k):=hv
  have HR:Hid (Row wr g N F'):=R'
  have HG:Hid (w.grownBy wr (some g)):=hgr
  clear hfr hv
  by_cases c1:k<m
  . obtain rfl:=HS.out.addr (by omega)
    have hb:=HS.out.blk (by omega)
    have cb0:=HS.out.cell k c1
    have ne:=HN.out (by omega)
    have cb1:wr.cell? ⟨bb,ob+k,none⟩=some (vU (G k:Int)):=by
     rw [World.cell?_of_block (w:=w) (hgr.block bb hb (by intro e;exact ne (Option.some.inj e)))];exact cb0
    have cz:=R'.row.cell (i:=o+k) (by omega)
    have fz:=R'.row.frozen (o+k)
    have ad:=fun W=>pT (F' (o+k)) (G k) x (R'.ws _) (HS.out.ws _) hx W
    have hr:((F' (o+k)+G k+x) % B)<B:=Nat.mod_lt _ B_pos
    have hq:((F' (o+k)+G k+x) / B)<=1:=xG (R'.ws _) (HS.out.ws _) hx
    have st:=sum_step (x:=F' (o+k)) (y:=G k) HV.out
    have hF:F' (o+k)=F (o+k):=HF.out _ (Or.inr (by omega))
    have HFK:Hid (F' (o+k)=F (o+k)):=hF
    clear R' hgr cb0 hF
    generalize ((F' (o+k)+G k+x) % B)=r at *
    generalize ((F' (o+k)+G k+x) / B)=q at *
    have HST:=(show Hid _ from st)
    clear st
    go_wp2
    go_region
    all_goals
     go_wp2
     go_roundw
     case rel =>
      refine ⟨k+1,q,put F' (o+k) r,rfl,by go_num,by omega,hq,(HR.out.set (o+k) hr).drew,qG (cD HG.out _),?_,?_⟩
      . intro i hi
        rw [put_ne (by omega)]
        exact HF.out i (by omega)
      . have e:V (fun i=>put F' (o+k) r (o+i)) (k+1)=V (fun i=>F' (o+i)) k+r * B ^ k:=by
         rw [V_succ,V_congr (f:=fun i=>put F' (o+k) r (o+i)) (g:=fun i=>F' (o+i)) (fun i hi=>put_ne (by omega)),put_at]
        rw [e,V_succ (fun i=>F (o+i)),V_succ G,Nat.pow_succ]
        have s:=HST.out
        rw [HFK.out] at s
        exact s
     case measure=>simp [intOf];omega
  . obtain rfl:k=m:=by omega
    clear R' hgr c1 hk
    go_wp2
    go_loopw [4,6] (fun cy i wr=>∃ (k2 x:Nat) (F':Nat -> Nat),cy=vU (x:Int)/\i=vI (k2:Int)/\k2<=n/\x<=1/\Row wr g N F'/\w.grownBy wr (some g)/\(∀ i,i<o \/ o+k2<=i -> F' i=F i)/\V (fun i=>F' (o+i)) k2+x * B ^ k2=V (fun i=>F (o+i)) k2+V G k) (fun _ i _=>n - (intOf i).toNat)
    case atStart=>exact ⟨k,x,F',rfl,rfl,hmn,hx,HR.out,HG.out,HF.out,HV.out⟩
    case round =>
     clear HF HV HR HG hx
     obtain ⟨k2,x,F',rfl,rfl,hk,hx,R',hgr,hfr,hv⟩:=hrel
     have HF:Hid (∀ i,i<o \/ o+k2<=i -> F' i=F i):=hfr
     have HV:Hid (V (fun i=>F' (o+i)) k2+x * B ^ k2=V (fun i=>F (o+i)) k2+V G k):=hv
     have HR:Hid (Row wr g N F'):=R'
     have HG:Hid (w.grownBy wr (some g)):=hgr
     clear hfr hv
     by_cases c1:x=0
     . subst c1
       clear R' hgr
       go_wp2
       refine bodyPost_end (v:=.tuple #[]) (by simp [results,Tryz.results280,go_sem]) rfl ⟨rfl,HG.out,F',HR.out,fun i hi=>HF.out i (by omega),?_⟩
       have a:=HV.out
       rw [Nat.zero_mul,Nat.add_zero] at a
       exact wU (a:=0) hk a (fun i p q=>HF.out (o+i) (Or.inr (by omega)))
     . have hlt:k2<n:=by
        rcases Nat.lt_or_ge k2 n with z | z
        . exact z
        . exfalso
          obtain rfl:k2=n:=by omega
          obtain rfl:x=1:=by omega
          have a:=HV.out
          have b:=HFIT.out
          have l1:=V_lt (f:=fun i=>F' (o+i)) (fun i=>R'.ws _) k2
          rw [Nat.one_mul] at a
          omega
       have c1':((x:Int) == 0)=false:=beq_eq_false_iff_ne.mpr (by omega)
       have cz:=R'.row.cell (i:=o+k2) (by omega)
       have fz:=R'.row.frozen (o+k2)
       have ad:∀ W,(callFunc 195 #[vU ((F' (o+k2):Nat):Int),vU 0,vU (x:Int)]).run Tryz.prog W=.ok (.value (.tuple #[vU ((((F' (o+k2)+0+x) % B):Nat):Int),vU ((((F' (o+k2)+0+x) / B):Nat):Int)])) W:=fun W=>pT (F' (o+k2)) 0 x (R'.ws _) B_pos hx W
       have hr:((F' (o+k2)+0+x) % B)<B:=Nat.mod_lt _ B_pos
       have hq:((F' (o+k2)+0+x) / B)<=1:=xG (R'.ws _) B_pos hx
       have st:=sum_step (x:=F' (o+k2)) (y:=0) HV.out
       have hF:F' (o+k2)=F (o+k2):=HF.out _ (Or.inr (by omega))
       have HFK:Hid (F' (o+k2)=F (o+k2)):=hF
       clear R' hgr hF c1
       generalize ((F' (o+k2)+0+x) % B)=r at *
       generalize ((F' (o+k2)+0+x) / B)=q at *
       have HST:=(show Hid _ from st)
       clear st
       go_wp2
       all_goals
        go_roundw
        case rel =>
         refine ⟨k2+1,q,put F' (o+k2) r,rfl,by go_num,by omega,hq,HR.out.set (o+k2) hr,cD HG.out _,?_,?_⟩
         . intro i hi
           rw [put_ne (by omega)]
           exact HF.out i (by omega)
         . have e:V (fun i=>put F' (o+k2) r (o+i)) (k2+1)=V (fun i=>F' (o+i)) k2+r * B ^ k2:=by
            rw [V_succ,V_congr (f:=fun i=>put F' (o+k2) r (o+i)) (g:=fun i=>F' (o+i)) (fun i hi=>put_ne (by omega)),put_at]
           rw [e,V_succ (fun i=>F (o+i)),Nat.pow_succ]
           have s:=HST.out
           rw [HFK.out,Nat.zero_mul,Nat.add_zero] at s
           exact s
        case measure=>simp [intOf];omega
theorem gY {w:World}{g N o n c:Nat}{F:Nat -> Nat}(R:Row w g N F) (hoN:o+n<=N) (hnc:n<=c) (hcm:c<=maxLen)
 {bo:Option Addr} {m cb bb ob:Nat} {G:Nat -> Nat} (S:Sl w bo m cb bb ob G) (hne:0<m -> bb ≠ g) (hmn:m<=n) (hfit:V G m<=V (fun i=>F (o+i)) n) :
 Calls Tryz.prog 261 #[.slice (some ⟨g,o,none⟩) n c,.slice bo m cb] w fun e w'=>e=.returned (.tuple #[])/\w.grownBy w' (some g) /\
  ∃ F',Row w' g N F'/\(∀ i,i<o \/ o+n<=i -> F' i=F i)/\V (fun i=>F' (o+i)) n+V G m=V (fun i=>F (o+i)) n:=by
 have hm:m<=maxLen:=Nat.le_trans S.le S.cap
 unfold maxLen at hm hcm
 go_enter Tryz.func261,Tryz.ntmps261
 go_wp2
 have HS:Hid (Sl w bo m cb bb ob G):=S
 have HN:Hid (0<m -> bb ≠ g):=hne
 have HFIT:Hid (V G m<=V (fun i=>F (o+i)) n):=hfit
 clear S hne hfit
 go_loopw [4,9] (fun cy i wr=>∃ (k x:Nat) (F':Nat -> Nat),cy=vU (x:Int)/\i=vI (k:Int)/\k<=m/\x<=1/\Row wr g N F'/\w.grownBy wr (some g)/\(∀ i,i<o \/ o+k<=i -> F' i=F i)/\V (fun i=>F' (o+i)) k+V G k=V (fun i=>F (o+i)) k+x * B ^ k) (fun _ i _=>m - (intOf i).toNat)
 case atStart=>exact ⟨0,0,F,rfl,rfl,Nat.zero_le _,by omega,R,World.grownBy.refl _ _,fun i _=>rfl,by simp [V]⟩
 case round =>
  obtain ⟨k,x,F',rfl,rfl,hk,hx,R',hgr,hfr,hv⟩:=hrel
  have HF:Hid (∀ i,i<o \/ o+k<=i -> F' i=F i):=hfr
  have HV:Hid (V (fun i=>F' (o+i)) k+V G k=V (fun i=>F (o+i)) k+x * B ^ k):=hv
  have HR:Hid (Row wr g N F'):=R'
  have HG:Hid (w.grownBy wr (some g)):=hgr
  clear hfr hv
  by_cases c1:k<m
  . obtain rfl:=HS.out.addr (by omega)
    have hb:=HS.out.blk (by omega)
    have cb0:=HS.out.cell k c1
    have ne:=HN.out (by omega)
    have cb1:wr.cell? ⟨bb,ob+k,none⟩=some (vU (G k:Int)):=by
     rw [World.cell?_of_block (w:=w) (hgr.block bb hb (by intro e;exact ne (Option.some.inj e)))];exact cb0
    have cz:=R'.row.cell (i:=o+k) (by omega)
    have fz:=R'.row.frozen (o+k)
    have ad:=fun W=>aFt (F' (o+k)) (G k) x (R'.ws _) (HS.out.ws _) hx W
    have hr:dW (F' (o+k)) (G k) x<B:=aH0 _ _ _
    have hq:dC (F' (o+k)) (G k) x<=1:=aHY _ _ _
    have st:=sub_step HV.out (aHZ (R'.ws _) (HS.out.ws _) hx:dW (F' (o+k)) (G k) x+G k+x=F' (o+k)+dC (F' (o+k)) (G k) x * B)
    have hF:F' (o+k)=F (o+k):=HF.out _ (Or.inr (by omega))
    have HFK:Hid (F' (o+k)=F (o+k)):=hF
    clear R' hgr cb0 hF
    generalize dW (F' (o+k)) (G k) x=r at *
    generalize dC (F' (o+k)) (G k) x=q at *
    have HST:=(show Hid _ from st)
    clear st
    go_wp2
    go_region
    all_goals
     go_wp2
     go_roundw
     case rel =>
      refine ⟨k+1,q,put F' (o+k) r,rfl,by go_num,by omega,hq,(HR.out.set (o+k) hr).drew,qG (cD HG.out _),?_,?_⟩
      . intro i hi
        rw [put_ne (by omega)]
        exact HF.out i (by omega)
      . have e:V (fun i=>put F' (o+k) r (o+i)) (k+1)=V (fun i=>F' (o+i)) k+r * B ^ k:=by
         rw [V_succ,V_congr (f:=fun i=>put F' (o+k) r (o+i)) (g:=fun i=>F' (o+i)) (fun i hi=>put_ne (by omega)),put_at]
        rw [e,V_succ (fun i=>F (o+i)),V_succ G,Nat.pow_succ]
        have s:=HST.out
        rw [HFK.out] at s
        exact s
     case measure=>simp [intOf];omega
  . obtain rfl:k=m:=by omega
    clear R' hgr c1 hk
    go_wp2
    go_loopw [4,6] (fun cy i wr=>∃ (k2 x:Nat) (F':Nat -> Nat),cy=vU (x:Int)/\i=vI (k2:Int)/\k2<=n/\x<=1/\Row wr g N F'/\w.grownBy wr (some g)/\(∀ i,i<o \/ o+k2<=i -> F' i=F i)/\V (fun i=>F' (o+i)) k2+V G k=V (fun i=>F (o+i)) k2+x * B ^ k2) (fun _ i _=>n - (intOf i).toNat)
    case atStart=>exact ⟨k,x,F',rfl,rfl,hmn,hx,HR.out,HG.out,HF.out,HV.out⟩
    case round =>
     clear HF HV HR HG hx
     obtain ⟨k2,x,F',rfl,rfl,hk,hx,R',hgr,hfr,hv⟩:=hrel
     have HF:Hid (∀ i,i<o \/ o+k2<=i -> F' i=F i):=hfr
     have HV:Hid (V (fun i=>F' (o+i)) k2+V G k=V (fun i=>F (o+i)) k2+x * B ^ k2):=hv
     have HR:Hid (Row wr g N F'):=R'
     have HG:Hid (w.grownBy wr (some g)):=hgr
     clear hfr hv
     by_cases c1:x=0
     . subst c1
       clear R' hgr
       go_wp2
       refine bodyPost_end (v:=.tuple #[]) (by simp [results,Tryz.results261,go_sem]) rfl ⟨rfl,HG.out,F',HR.out,fun i hi=>HF.out i (by omega),?_⟩
       have a:=HV.out
       rw [Nat.zero_mul,Nat.add_zero] at a
       exact wU (b:=0) hk a (fun i p q=>HF.out (o+i) (Or.inr (by omega)))
     . have hlt:k2<n:=by
        rcases Nat.lt_or_ge k2 n with z | z
        . exact z
        . exfalso
          obtain rfl:k2=n:=by omega
          obtain rfl:x=1:=by omega
          have a:=HV.out
          have b:=HFIT.out
          have l1:=V_lt (f:=fun i=>F' (o+i)) (fun i=>R'.ws _) k2
          rw [Nat.one_mul] at a
          omega
       have c1':((x:Int) == 0)=false:=beq_eq_false_iff_ne.mpr (by omega)
       have cz:=R'.row.cell (i:=o+k2) (by omega)
       have fz:=R'.row.frozen (o+k2)
       have ad:∀ W,(callFunc 279 #[vU ((F' (o+k2):Nat):Int),vU 0,vU (x:Int)]).run Tryz.prog W=.ok (.value (.tuple #[vU ((dW (F' (o+k2)) (0) x:Nat):Int),vU ((dC (F' (o+k2)) (0) x:Nat):Int)])) W:=fun W=>aFt (F' (o+k2)) 0 x (R'.ws _) B_pos hx W
       have hr:dW (F' (o+k2)) (0) x<B:=aH0 _ _ _
       have hq:dC (F' (o+k2)) (0) x<=1:=aHY _ _ _
       have st:=sub_step HV.out (aHZ (R'.ws _) B_pos hx:dW (F' (o+k2)) (0) x+0+x=F' (o+k2)+dC (F' (o+k2)) (0) x * B)
       have hF:F' (o+k2)=F (o+k2):=HF.out _ (Or.inr (by omega))
       have HFK:Hid (F' (o+k2)=F (o+k2)):=hF
       clear R' hgr hF c1
       generalize dW (F' (o+k2)) (0) x=r at *
       generalize dC (F' (o+k2)) (0) x=q at *
       have HST:=(show Hid _ from st)
       clear st
       go_wp2
       all_goals
        go_roundw
        case rel =>
         refine ⟨k2+1,q,put F' (o+k2) r,rfl,by go_num,by omega,hq,HR.out.set (o+k2) hr,cD HG.out _,?_,?_⟩
         . intro i hi
           rw [put_ne (by omega)]
           exact HF.out i (by omega)
         . have e:V (fun i=>put F' (o+k2) r (o+i)) (k2+1)=V (fun i=>F' (o+i)) k2+r * B ^ k2:=by
            rw [V_succ,V_congr (f:=fun i=>put F' (o+k2) r (o+i)) (g:=fun i=>F' (o+i)) (fun i hi=>put_ne (by omega)),put_at]
           rw [e,V_succ (fun i=>F (o+i)),Nat.pow_succ]
           have s:=HST.out
           rw [HFK.out,Nat.zero_mul,Nat.add_zero] at s
           exact s
        case measure=>simp [intOf];omega
theorem aK8 (x y:Nat) (hx:x<B) (hy:y<B) (w:World) :
 Cs 263 #[vU (x:Int),vU (y:Int)] w (.tuple #[vU ((x * y / B:Nat):Int),vU ((x * y % B:Nat):Int)]):=by
 unfold B at *
 refine (uH x y ⟨by omega,by omega⟩ ⟨by omega,by omega⟩ w).mono ?_
 rintro e w' ⟨rfl,rfl⟩
 unfold mHi mLo
 exact ⟨rfl,rfl⟩
theorem aA8 {x y z v:Nat}(hx:x<B) (hy:y<B) (hz:z<B) (hv:v<B) :
 x * y / B+(x * y % B+z+0) / B<B/\x * y / B+(x * y % B+z+0) / B+((x * y % B+z+0) % B+v+0) / B<B /\
  ((x * y % B+z+0) % B+v+0) % B+(x * y / B+(x * y % B+z+0) / B+((x * y % B+z+0) % B+v+0) / B) * B=x * y+z+v:=by
 have p:x * y<=18446744073709551615 * 18446744073709551615:=Nat.mul_le_mul (by unfold B at hx;omega) (by unfold B at hy;omega)
 generalize x * y=P at *
 unfold B at *
 omega
theorem nD {w:World}{g N o n c:Nat}{F:Nat -> Nat}(R:Row w g N F) {zo:Option Addr}
 {bo:Option Addr} {m cb bb ob:Nat} {G:Nat -> Nat} (S:Sl w bo m cb bb ob G) (hz:0<m -> zo=some ⟨g,o,none⟩/\bb ≠ g) (hoN:o+m<=N) (hmn:m<=n) (x:Nat) (hx:x<B) :
 Calls Tryz.prog 265 #[.slice zo n c,.slice bo m cb,vU (x:Int)] w fun e w'=>∃ (v:Nat) (F':Nat -> Nat),e=.returned (vU (v:Int))/\v<B/\w.grownBy w' (some g) /\
  Row w' g N F'/\(∀ i,i<o \/ o+m<=i -> F' i=F i)/\V (fun i=>F' (o+i)) m+v * B ^ m=V (fun i=>F (o+i)) m+V G m * x:=by
 have hm:m<=maxLen:=Nat.le_trans S.le S.cap
 unfold maxLen at hm
 have HS:Hid (Sl w bo m cb bb ob G):=S
 have HN:Hid (0<m -> zo=some ⟨g,o,none⟩/\bb ≠ g):=hz
 have HW:Hid (x<B):=hx
 clear S hz hx
 go_enter Tryz.func265,Tryz.ntmps265
 go_wp2
 go_loopw [7,15] (fun ov i wr=>∃ (k v:Nat) (F':Nat -> Nat),ov=vU (v:Int)/\i=vI (k:Int)/\k<=m/\v<B/\Row wr g N F'/\w.grownBy wr (some g)/\(∀ i,i<o \/ o+k<=i -> F' i=F i)/\V (fun i=>F' (o+i)) k+v * B ^ k=V (fun i=>F (o+i)) k+V G k * x) (fun _ i _=>m - (intOf i).toNat)
 case atStart=>exact ⟨0,0,F,rfl,rfl,Nat.zero_le _,B_pos,R,World.grownBy.refl _ _,fun i _=>rfl,by simp [V]⟩
 case round =>
  obtain ⟨k,v,F',rfl,rfl,hk,hv,R',hgr,hfr,hVV⟩:=hrel
  have HF:Hid (∀ i,i<o \/ o+k<=i -> F' i=F i):=hfr
  have HV:Hid (V (fun i=>F' (o+i)) k+v * B ^ k=V (fun i=>F (o+i)) k+V G k * x):=hVV
  have HR:Hid (Row wr g N F'):=R'
  have HG:Hid (w.grownBy wr (some g)):=hgr
  have HB:Hid (v<B):=hv
  clear hfr hVV hv
  by_cases c1:k<m
  . obtain ⟨rfl,ne⟩:=HN.out (by omega)
    obtain rfl:=HS.out.addr (by omega)
    have hb:=HS.out.blk (by omega)
    have cb0:=HS.out.cell k c1
    have cb1:wr.cell? ⟨bb,ob+k,none⟩=some (vU (G k:Int)):=by
     rw [World.cell?_of_block (w:=w) (hgr.block bb hb (by intro e;exact ne (Option.some.inj e)))];exact cb0
    have cz:=R'.row.cell (i:=o+k) (by omega)
    have fz:=R'.row.frozen (o+k)
    have ml:=fun W=>aK8 x (G k) HW.out (HS.out.ws _) W
    have a1:∀ W,(callFunc 195 #[vU ((x * G k % B:Nat):Int),vU ((F' (o+k):Nat):Int),vU 0]).run Tryz.prog W=.ok (.value (.tuple #[vU (((x * G k % B+F' (o+k)+0) % B:Nat):Int),vU (((x * G k % B+F' (o+k)+0) / B:Nat):Int)])) W:=fun W=>pT _ _ 0 (Nat.mod_lt _ B_pos) (R'.ws _) (by omega) W
    have a2:∀ W,(callFunc 195 #[vU (((x * G k % B+F' (o+k)+0) % B:Nat):Int),vU (v:Int),vU 0]).run Tryz.prog W=.ok (.value (.tuple #[vU ((((x * G k % B+F' (o+k)+0) % B+v+0) % B:Nat):Int),vU ((((x * G k % B+F' (o+k)+0) % B+v+0) / B:Nat):Int)])) W:=fun W=>pT _ _ 0 (Nat.mod_lt _ B_pos) HB.out (by omega) W
    obtain ⟨t1,t2,t3⟩:=aA8 HW.out (HS.out.ws k) (R'.ws (o+k)) HB.out
    have hr:((x * G k % B+F' (o+k)+0) % B+v+0) % B<B:=Nat.mod_lt _ B_pos
    have st:=rL HV.out t3
    have hF:F' (o+k)=F (o+k):=HF.out _ (Or.inr (by omega))
    have HFK:Hid (F' (o+k)=F (o+k)):=hF
    clear R' hgr cb0 t3 hF
    generalize ((x * G k % B+F' (o+k)+0) % B+v+0) % B=r at *
    generalize ((x * G k % B+F' (o+k)+0) % B+v+0) / B=q2 at *
    generalize (x * G k % B+F' (o+k)+0) % B=l2 at *
    generalize (x * G k % B+F' (o+k)+0) / B=q1 at *
    generalize x * G k % B=l1 at *
    generalize x * G k / B=h1 at *
    have HST:=(show Hid _ from st)
    have HT2:Hid (h1+q1+q2<B):=t2
    have t1':h1+q1<18446744073709551616:=t1
    have t2':h1+q1+q2<18446744073709551616:=t2
    clear st t1 t2
    go_wp2_with (go_at_call 263;refine (ml _).mono ?_;rintro e wa ⟨rfl,rfl⟩)
    go_roundw
    case rel =>
     refine ⟨k+1,h1+q1+q2,put F' (o+k) r,by push_cast;rfl,by go_num,by omega,HT2.out,HR.out.set (o+k) hr,cD HG.out _,?_,?_⟩
     . intro i hi
       rw [put_ne (by omega)]
       exact HF.out i (by omega)
     . have e:V (fun i=>put F' (o+k) r (o+i)) (k+1)=V (fun i=>F' (o+i)) k+r * B ^ k:=by
        rw [V_succ,V_congr (f:=fun i=>put F' (o+k) r (o+i)) (g:=fun i=>F' (o+i)) (fun i hi=>put_ne (by omega)),put_at]
       rw [e,V_succ (fun i=>F (o+i)),V_succ G,Nat.pow_succ]
       have s:=HST.out
       rw [HFK.out] at s
       exact s
    case measure=>simp [intOf];omega
  . obtain rfl:k=m:=by omega
    clear R' hgr
    go_wp2
    go_ret
    exact ⟨v,F',rfl,HB.out,HG.out,HR.out,HF.out,HV.out⟩
theorem bS:Tryz.prog.underlying 203=some (.slice 31):=by kernel_rfl
theorem aR {w w0 w':World}{g:Nat}(h:Bl w w0) (hg:w0.grownBy w' (some g)) (hl:w.heap.size<=g):Bl w w' :=
 h.grown hg h.size (fun k e=>by have:=Option.some.inj e;omega)
theorem iG {w:World}{ao:Option Addr}{n c ba oa:Nat}{f:Nat -> Nat}(S:Sl w ao n c ba oa f) {bo:Option Addr}{m cb bb ob:Nat}{G:Nat -> Nat}(S':Sl w bo m cb bb ob G) (hn:n<=1000) (hm:m<=1000) :
 Calls Tryz.prog 241 #[.slice ao n c,.slice bo m cb] w fun e w'=>e=.returned (.slice (some ⟨w.heap.size,0,none⟩) (n+m) (n+m))/\Bl w w' /\
  ∃ F,Row w' w.heap.size (n+m) F/\V F (n+m)=V f n * V G m:=by
 have hmk:=run_make_row' (P:=Tryz.prog) 203 31 (vU 0) 8 bS cH rfl .i64 .i64 (n+m) (by omega) (by omega)
 simp only [Int.natCast_add] at hmk
 have HS:Hid (Sl w ao n c ba oa f):=S
 have HS':Hid (Sl w bo m cb bb ob G):=S'
 clear S S'
 go_enter Tryz.func241,Tryz.ntmps241
 go_wp2
 go_loopw [16] (fun i wr=>∃ (k:Nat) (F':Nat -> Nat),i=vI (k:Int)/\k<=n/\Row wr w.heap.size (n+m) F'/\Bl w wr/\(∀ j,k+m<=j -> F' j=0)/\V F' (k+m)=V f k * V G m) (fun i _=>n - (intOf i).toNat)
 case atStart=>exact ⟨0,fun _=>0,rfl,Nat.zero_le _,⟨World.rowIs_made _ _ _ _,fun _=>B_pos⟩,bz _ _,fun _ _=>rfl,by rw [V_nought,V_zero,Nat.zero_mul]⟩
 case round =>
  obtain ⟨k,F',rfl,hk,R',hbl,hz,hv⟩:=hrel
  have HZ:Hid (∀ j,k+m<=j -> F' j=0):=hz
  have HV:Hid (V F' (k+m)=V f k * V G m):=hv
  have HB:Hid (Bl w wr):=hbl
  have HR:Hid (Row wr w.heap.size (n+m) F'):=R'
  clear hz hv
  by_cases c1:k<n
  . obtain rfl:=HS.out.addr (by omega)
    have hc:=(HS.out.below hbl).cell k c1
    have T:=nD (g:=w.heap.size) (o:=k) (zo:=some ⟨w.heap.size,k,none⟩) (n:=m) (c:=n+m - k) R' (HS'.out.below hbl) (fun q=>⟨rfl,Nat.ne_of_lt (HS'.out.blk q)⟩) (by omega) (Nat.le_refl _) (f k) (HS.out.ws k)
    clear hbl R'
    go_wp2_with fail
    refine T.mono ?_
    rintro e wa ⟨v,F2,rfl,hvB,hg,R2,hfr,hvv⟩
    have cz:=R2.row.cell (i:=k+m) (by omega)
    have fz:=R2.row.frozen (k+m)
    have HR2:Hid (Row wa w.heap.size (n+m) F2):=R2
    have HF:Hid (∀ i,i<k \/ k+m<=i -> F2 i=F' i):=hfr
    have HVV:Hid (V (fun i=>F2 (k+i)) m+v * B ^ m=V (fun i=>F' (k+i)) m+V G m * f k):=hvv
    have HG:Hid (Bl w wa):=aR HB.out hg (Nat.le_refl _)
    have HVB:Hid (v<B):=hvB
    clear R2 hfr hvv hg hvB
    go_wp2
    go_roundw
    case rel =>
     refine ⟨k+1,put F2 (k+m) v,by go_num,by omega,HR2.out.set (k+m) HVB.out,HG.out.setCell (Nat.le_refl _) _,?_,?_⟩
     . intro j hj
       rw [put_ne (by omega),HF.out j (by omega)]
       exact HZ.out j (by omega)
     . have e1:V (put F2 (k+m) v) (k+1+m)=V F2 (k+m)+v * B ^ (k+m):=by
        rw [show k+1+m=k+m+1 by omega,V_succ,V_put_low (Nat.le_refl _),put_at]
       have e2:=V_split F2 k m
       have e3:=V_split F' k m
       have e4:V F2 k=V F' k:=V_congr fun i hi=>HF.out i (by omega)
       rw [e4] at e2
       rw [e1,e2,V_succ f k,Nat.pow_add]
       have e5:=zG (p:=B ^ k) HVV.out (u:=V F' k) (a:=V f k) (by rw [<- e3];exact HV.out)
       rw [<- e5]
       exact rI
    case measure=>simp [intOf];omega
  . obtain rfl:k=n:=by omega
    clear R' hbl
    go_wp2
    go_ret
    exact ⟨rfl,HB.out,F',HR.out,HV.out⟩
theorem bG {w:World}{g N:Nat}{F:Nat -> Nat}(R:Row w g N F) (hN:N<=maxLen) {X:Nat}(hX:V F N=X) (hlt:X<B ^ 128) :
 NatV w (.slice (some ⟨g,0,none⟩) (tl F N) (tl F N)) X/\tl F N<=128:=by
 have t:=dR F N
 have v:=fW F N
 have l:=gG F N
 have h:tl F N<=128:=len_le t (by rw [v,hX];exact hlt)
 refine ⟨⟨_,_,_,g,0,F,rfl,?_,t,v.trans hX,h⟩,h⟩
 have S:=R.sl (o:=0) (n:=tl F N) (c:=tl F N) (by omega) (Nat.le_refl _) (by omega)
 have e:(fun i=>F (0+i))=F:=funext fun i=>by rw [Nat.zero_add]
 rw [e] at S
 exact S
theorem aG {w:World}{g N:Nat}{F:Nat -> Nat}(R:Row w g N F) (hN:N<=maxLen):Sl w (some ⟨g,0,none⟩) N N g 0 F:=by
 have S:=R.sl (o:=0) (n:=N) (c:=N) (by omega) (Nat.le_refl _) hN
 have e:(fun i=>F (0+i))=F:=funext fun i=>by rw [Nat.zero_add]
 rw [e] at S
 exact S
theorem mJ {w:World}{va vb:Value}{X Y:Nat}(ha:NatV w va X) (hb:NatV w vb Y) (h:X * Y<B ^ 128) :
 Calls Tryz.prog 199 #[va,vb] w fun e w'=>∃ v,e=.returned (.tuple #[v,.nilIface])/\NatV w' v (X * Y)/\Bl w w':=by
 obtain ⟨ao,n,c,b,o,f,rfl,S,t,rfl,hn⟩:=ha
 obtain ⟨bo,m,cb,bb,ob,G,rfl,S',t',rfl,hm⟩:=hb
 have h1:=eZ S S'
 rw [fM hn t hm t'] at h1
 unfold aZ at h1
 have HH:Hid (V f n * V G m<B ^ 128):=h
 clear h
 go_enter Tryz.func199,Tryz.ntmps199
 go_wp2_with fail
 refine h1.mono ?_
 rintro e wa ⟨rfl,hba⟩
 have T:=iG (S.below hba) (S'.below hba) (by omega) (by omega)
 go_wp2_with fail
 refine T.mono ?_
 rintro e wb ⟨rfl,hbb,F,R,hv⟩
 obtain ⟨nv,hl⟩:=bG R (by unfold maxLen;omega) hv HH.out
 have FT:=hI (aG R (by unfold maxLen;omega)) hl
 go_wp2_with fail
 refine FT.mono ?_
 rintro e wc ⟨rfl,rfl⟩
 go_wp2
 refine bodyPost_ret (v:=.tuple #[.slice (some ⟨wa.heap.size,0,none⟩) (tl F (n+m)) (tl F (n+m)),.nilIface]) (by simp [results,Tryz.results199,go_sem]) rfl ⟨_,rfl,nv,hba.trans (hbb.mono hba.size)⟩
def cpy (f:Nat -> Nat) (n:Nat):Nat -> Nat:=fun i=>if i<n then f i else 0
theorem aHX {f:Nat -> Nat}{n N:Nat}(h:n<=N):V (cpy f n) N=V f n:=by
 rw [V_zeros (f:=cpy f n) h (fun i a _=>by unfold cpy;rw [if_neg (by omega)])]
 exact V_congr fun i hi=>by unfold cpy;rw [if_pos hi]
theorem iL:(Tryz.prog.info? 31).map (·.size)=some 1:=by kernel_rfl
theorem lP {w:World}{g:Nat}{cs:Array Value}{k:Nat}(h:k ≠ g):(w.setRow g cs).heap[k]?=w.heap[k]?:=by
 simp only [World.setRow,Array.getElem?_modify]
 rw [if_neg (by omega)]
theorem oU (w:World) (g:Nat) (cs:Array Value):(w.setRow g cs).heap.size=w.heap.size:=by simp [World.setRow]
theorem pA {w:World}{g N:Nat}{F:Nat -> Nat}(R:Row w g N F) {ao:Option Addr}{n c b o cz:Nat}{f:Nat -> Nat}(S:Sl w ao n c b o f) (hn:n<=N) :
 ∃ w2,(Builtin.copy_ #[203,203] 3 #[.slice (some ⟨g,0,none⟩) N cz,.slice ao n c]).run Tryz.prog w=.ok (vI (n:Int)) w2/\Row w2 g N (fun i=>if i<n then f i else F i)/\w.grownBy w2 (some g):=by
 have hws:Ws (fun i=>if i<n then f i else F i):=by intro i;show (if i<n then f i else F i)<B;split;exact S.ws i;exact R.ws i
 by_cases h0:n=0
 . subst h0
   refine ⟨w,run_copy_none w _ _ 3 31 _ _ _ _ _ _ bS iL (by simp),⟨R.row.congr fun i hi=>?_,hws⟩,World.grownBy.refl _ _⟩
   rw [if_neg (by omega)]
 . obtain rfl:=S.addr (by omega)
   obtain ⟨cur,hg,hs,hc⟩:=R.row
   have hlen:((List.range n).map fun i=>vU (f i:Int)).length=n:=by simp
   have e:=run_copy_row (P:=Tryz.prog) w 203 203 3 31 g 0 N cz ⟨b,o,none⟩ n c cur 31 ((List.range n).map fun i=>vU (f i:Int)) bS iL hg (by rw [hlen];exact (Nat.min_eq_left hn).symm)
    (fun j v hv=>by
     rw [List.getElem?_map] at hv
     have hj:j<n:=by
      rcases Nat.lt_or_ge j n with q | q
      . exact q
      . rw [List.getElem?_eq_none (by simpa using q)] at hv;cases hv
     rw [List.getElem?_range hj] at hv
     have:=Option.some.inj hv
     rw [<- this]
     have q:=S.cell j hj
     by_cases z:j=0
     . subst z;simpa [Addr.add] using q
     . simpa [Addr.add,z] using q) (by rw [hlen,hs];omega) (by intro v hv;obtain ⟨i,_,rfl⟩:=List.mem_map.1 hv;rfl)
   rw [hlen] at e
   refine ⟨_,e,⟨⟨_,setRow_heap w g cur _ 31 (0,0) hg,?_,fun i hi=>?_⟩,hws⟩,⟨rfl,rfl,rfl,by rw [oU];exact Nat.le_refl _,fun k hk hne=>lP (fun q=>hne (by rw [q]))⟩⟩
   . simp [hs];omega
   . have hcl:cur.toList.length=N:=by simpa using hs
     simp only [List.take_zero,List.nil_append,Nat.zero_add,List.getElem?_toArray]
     by_cases q:i<n
     . rw [if_pos q,List.getElem?_append_left (by rw [hlen];exact q),List.getElem?_map,List.getElem?_range q]
       rfl
     . rw [if_neg q,List.getElem?_append_right (by rw [hlen];omega),hlen,List.getElem?_drop,show n+(i - n)=i by omega]
       simpa using hc i hi
theorem made_row (w:World) (n:Nat):Row (w.alloc (.cells (madeCells #[vU 0] n) 31)) w.heap.size n (fun _=>0):=⟨World.rowIs_made _ _ _ _,fun _=>B_pos⟩
theorem aAB {w:World}{va vb:Value}{X Y:Nat}(ha:NatV w va X) (hb:NatV w vb Y) (h:Y<=X) :
 Calls Tryz.prog 269 #[va,vb] w fun e w'=>∃ v,e=.returned (.tuple #[v,.nilIface])/\NatV w' v (X - Y)/\Bl w w':=by
 obtain ⟨ao,n,c,b,o,f,rfl,S,t,rfl,hn⟩:=ha
 obtain ⟨bo,m,cb,bb,ob,G,rfl,S',t',rfl,hm⟩:=hb
 have h1:=eZ S S'
 rw [fM hn t hm t'] at h1
 unfold aZ at h1
 have hmk:=run_make_row' (P:=Tryz.prog) 203 31 (vU 0) 8 bS cH rfl .i64 .i64 n (by omega) (by omega)
 have HH:Hid (V G m<=V f n):=h
 have hq:¬ ord (V f n) (V G m)<0:=by unfold ord;rw [if_neg (by omega)];split <;> omega
 clear h
 go_enter Tryz.func269,Tryz.ntmps269
 go_wp2_with fail
 refine h1.mono ?_
 rintro e wa ⟨rfl,hba⟩
 have T:=jA (S.below hba) (S'.below hba) t t'
 generalize ord (V f n) (V G m)=q at *
 go_wp2_with fail
 refine T.mono ?_
 rintro e wb ⟨rfl,hbb⟩
 have hb1:Bl w wb:=hba.trans (hbb.mono hba.size)
 have S1:=S.below hb1
 have S1':=S'.below hb1
 have bA:Bl wb (wb.alloc (.cells (madeCells #[vU 0] n) 31)):=bz _ _
 obtain ⟨w2,hcp,R2,hg2⟩:=pA (cz:=n) (made_row wb n) (S1.below bA) (Nat.le_refl n)
 have b2:Bl wb w2:=aR bA hg2 (Nat.le_refl _)
 have hmn:m<=n:=by
  rcases Nat.lt_or_ge n m with z | z
  . have:=len_lt S.ws t' z;have:=HH.out;omega
  . exact z
 have eV:V (fun i=>(fun i=>if i<n then f i else 0) (0+i)) n=V f n:=V_congr fun i hi=>by show (if 0+i<n then f (0+i) else 0)=f i;rw [Nat.zero_add,if_pos hi]
 have D:=gY (o:=0) (n:=n) (c:=n) R2 (by omega) (Nat.le_refl _) (by unfold maxLen;omega) (S1'.below b2) (fun q=>Nat.ne_of_lt (S1'.blk q)) hmn (by rw [eV];exact HH.out)
 rw [eV] at D
 have b3:Bl w w2:=hb1.trans (b2.mono hb1.size)
 have hsz:=hb1.size
 clear R2 hg2 bA b2 eV
 go_wp2_with fail
 refine D.mono ?_
 rintro e w3 ⟨rfl,hg3,F,R3,_,hv⟩
 have b4:Bl w w3:=aR b3 hg3 hsz
 have e0:(fun i=>F (0+i))=F:=funext fun i=>by rw [Nat.zero_add]
 rw [e0] at hv
 obtain ⟨nv,hl⟩:=bG R3 (by unfold maxLen;omega) (X:=V f n - V G m) (by omega) (by have:=V_lt S.ws n;have:B ^ n<=B ^ 128:=Nat.pow_le_pow_right B_pos hn;omega)
 have TT:=trim_any (aG R3 (by unfold maxLen;omega))
 go_wp2_with fail
 refine TT.mono ?_
 rintro e w4 ⟨rfl,rfl⟩
 go_wp2
 refine bodyPost_ret (v:=.tuple #[.slice (some ⟨wb.heap.size,0,none⟩) (tl F n) (tl F n),.nilIface]) (by simp [results,Tryz.results269,go_sem]) rfl ⟨_,rfl,nv,b4⟩
structure Divd (U l Y Y1 Y0:Int):Prop where
 hY:Y=Y1 * 4294967296+Y0
 y0:0<=Y0
 y0':Y0<=4294967295
 y1:2147483648<=Y1
 y1':Y1<=4294967295
 u0:0<=U
 u1:U<Y
 l0:0<=l
 l1:l<=4294967295
def qd (U l Y:Int):Int:=(U * 4294967296+l) / Y
def rd (U l Y:Int):Int:=(U * 4294967296+l) % Y
theorem mL (q Y1 Y0:Int):q * (Y1 * 4294967296+Y0)=q * Y1 * 4294967296+q * Y0:=by rw [Int.mul_add,Int.mul_assoc]
variable {U l Y Y1 Y0 : Int}
theorem Divd.pos (h:Divd U l Y Y1 Y0):0<Y:=by have:=h.hY;have:=h.y0;have:=h.y1;omega
theorem Divd.qd_lt (h:Divd U l Y Y1 Y0):qd U l Y<4294967296:=by
 have a:=h.u1;have b:=h.l1
 exact Int.ediv_lt_of_lt_mul h.pos (by omega)
theorem Divd.qd_nonneg (h:Divd U l Y Y1 Y0):0<=qd U l Y:=Int.ediv_nonneg (by have:=h.u0;have:=h.l0;omega) (Int.le_of_lt h.pos)
theorem Divd.rd_lt (h:Divd U l Y Y1 Y0):0<=rd U l Y/\rd U l Y<Y:=⟨Int.emod_nonneg _ (by have:=h.pos;omega),Int.emod_lt_of_pos _ h.pos⟩
theorem Divd.eq (_h:Divd U l Y Y1 Y0):U * 4294967296+l=qd U l Y * Y+rd U l Y:=by
 have:=Int.mul_ediv_add_emod (U * 4294967296+l) Y
 unfold qd rd;rw [Int.mul_comm ((U * 4294967296+l) / Y) Y];exact this.symm
theorem Divd.start (h:Divd U l Y Y1 Y0):qd U l Y<=U / Y1/\U / Y1<=4294967297/\U / Y1 * Y1<=U/\U - U / Y1 * Y1<Y1:=by
 have e:=h.eq;have r:=h.rd_lt
 have e3:=h.y1;have e1:=h.hY;have e4:=h.y0'
 have e5:=h.u0;have e6:=h.u1;have e7:=h.l0;have e8:=h.l1;have e9:=h.y0
 have m:=Int.mul_ediv_add_emod U Y1
 have m1:=Int.emod_nonneg U (b:=Y1) (by omega)
 have m2:=Int.emod_lt_of_pos U (b:=Y1) (by omega)
 rw [Int.mul_comm] at m
 refine ⟨?_,?_,by omega,by omega⟩
 . rw [Int.le_ediv_iff_mul_le (by omega)]
   have s:=mL (qd U l Y) Y1 Y0
   rw [<- e1] at s
   have p:=Int.mul_nonneg h.qd_nonneg e9
   omega
 . by_cases c:U / Y1<=4294967297
   . exact c
   . have:=Int.mul_le_mul (a:=4294967298) (b:=Y1) (c:=U / Y1) (d:=Y1) (by omega) (Int.le_refl _) (by omega) (by omega)
     omega
theorem Divd.down1 (h:Divd U l Y Y1 Y0) {q:Int}(hq:4294967296<=q):qd U l Y<=q - 1:=by have:=h.qd_lt;omega
theorem Divd.down2 (h:Divd U l Y Y1 Y0) {q r:Int}(he:q * Y1+r=U) (hg:4294967296 * r+l<q * Y0):qd U l Y<=q - 1:=by
 have s:=mL q Y1 Y0
 rw [<- h.hY] at s
 have:qd U l Y<q:=Int.ediv_lt_of_lt_mul h.pos (by omega)
 omega
theorem Divd.done (h:Divd U l Y Y1 Y0) {q r:Int}(he:q * Y1+r=U) (hq:qd U l Y<=q) (hg:q * Y0<=4294967296 * r+l):q=qd U l Y:=by
 have s:=mL q Y1 Y0
 rw [<- h.hY] at s
 have:q<=qd U l Y:=(Int.le_ediv_iff_mul_le h.pos).mpr (by omega)
 omega
theorem Divd.broke (h:Divd U l Y Y1 Y0) {q r:Int}(he:q * Y1+r=U) (hq:qd U l Y<=q) (hq':q<=4294967296) (hr:4294967296<=r):q=qd U l Y:=by
 have h0:=h.qd_nonneg
 have p:=Int.mul_le_mul (a:=q) (b:=Y0) (c:=4294967296) (d:=4294967295) hq' h.y0' h.y0 (by omega)
 have:=h.l0
 exact h.done he hq (by omega)
theorem Divd.prod (h:Divd U l Y Y1 Y0) {q:Int}(h0:0<=q) (hq:q<=4294967297):0<=q * Y0/\q * Y0<18446744073709551616:=by
 have p:=Int.mul_le_mul (a:=q) (b:=Y0) (c:=4294967297) (d:=4294967295) hq h.y0' h.y0 (by omega)
 exact ⟨Int.mul_nonneg h0 h.y0,by omega⟩
theorem aS {q r Y1 U:Int}(he:q * Y1+r=U):(q - 1) * Y1+(r+Y1)=U:=by rw [Int.sub_mul];omega
theorem aDE {hi lo y S U L L1 L0 Y N:Int}(hS:0<S) (hy:0<y) (hY:Y=y * S) (hUL:(hi * 18446744073709551616+lo) * S=U * 18446744073709551616+L)
 (hL:L=L1 * 4294967296+L0) {q1 q0 R:Int} (e1:U * 4294967296+L1=q1 * Y+N) (e2:N * 4294967296+L0=q0 * Y+R) (r0:0<=R) (r1:R<Y) :
 q1 * 4294967296+q0=(hi * 18446744073709551616+lo) / y/\R / S=(hi * 18446744073709551616+lo) % y:=by
 generalize hi * 18446744073709551616+lo=V at *
 have a:V * S=(q1 * 4294967296+q0) * y * S+R:=by
  have b1:(q1 * 4294967296+q0) * y * S=q1 * Y * 4294967296+q0 * Y:=by
   rw [Int.mul_assoc,<- hY,Int.add_mul,Int.mul_right_comm]
  rw [b1];omega
 generalize q1 * 4294967296+q0=q at *
 have c:R=(V - q * y) * S:=by rw [Int.sub_mul];omega
 have d:R / S=V - q * y:=by rw [c,Int.mul_ediv_cancel _ (by omega)]
 have f0:0<=V - q * y:=by rw [<- d];exact Int.ediv_nonneg r0 (by omega)
 have f1:V - q * y<y:=by rw [<- d];exact Int.ediv_lt_of_lt_mul hS (by omega)
 have g:V=(V - q * y)+y * q:=by rw [Int.mul_comm y q];omega
 constructor
 . rw [g,Int.add_mul_ediv_left _ _ (by omega),Int.ediv_eq_zero_of_lt f0 f1,Int.zero_add]
 . rw [d,g,Int.add_mul_emod_self_left,Int.emod_eq_of_lt f0 f1]
   rw [Int.mul_comm y q];omega
theorem zE {a:Int}(h:aD a):bits .and .u64 a 4294967295=a % 4294967296:=by
 obtain ⟨x,rfl⟩:=Int.eq_ofNat_of_zero_le h.1
 have h2:=h.2
 have e:=bits_and_u64_nat x 4294967295 (by omega) (by omega)
 have f:x &&& 4294967295=x % 4294967296:=Nat.and_two_pow_sub_one_eq_mod x 32
 rw [f] at e
 exact e.trans (by omega)
theorem aCu {hi lo y:Int}{n:Nat}(h1:aD hi) (h2:aD lo) (hlt:hi<y) (hn:n<=63) (b3:(2:Int) ^ n<=y) (b4:y<2 ^ (n+1)) :
 ∃ U L Y:Int,IntKind.u64.wrap (y * 2 ^ (63 - n))=Y/\bits .or .u64 (IntKind.u64.wrap (hi * 2 ^ (63 - n))) (lo / 2 ^ (64 - (63 - n)))=U/\IntKind.u64.wrap (lo * 2 ^ (63 - n))=L /\
  Y=y * 2 ^ (63 - n)/\9223372036854775808<=Y/\Y<18446744073709551616/\0<=U/\U<Y/\0<=L/\L<18446744073709551616/\(hi * 18446744073709551616+lo) * 2 ^ (63 - n)=U * 18446744073709551616+L:=by
 obtain ⟨a,rfl⟩:=Int.eq_ofNat_of_zero_le h1.1
 obtain ⟨b,rfl⟩:=Int.eq_ofNat_of_zero_le h2.1
 obtain ⟨c,rfl⟩:=Int.eq_ofNat_of_zero_le (by omega:0<=y)
 have hb2:=h2.2
 have g3:2 ^ n<=c:=by exact_mod_cast b3
 have g4:c<2 ^ (n+1):=by exact_mod_cast b4
 have p1:2 ^ n * 2 ^ (63 - n)=9223372036854775808:=by rw [<- Nat.pow_add,show n+(63 - n)=63 by omega]
 have p2:2 ^ (n+1) * 2 ^ (63 - n)=18446744073709551616:=by rw [<- Nat.pow_add,show n+1+(63 - n)=64 by omega]
 have s0:0<2 ^ (63 - n):=Nat.pow_pos (by omega)
 have t1:64 - (63 - n)=n+1:=by omega
 have i1:2 ^ n * 2 ^ (63 - n)<=c * 2 ^ (63 - n):=Nat.mul_le_mul_right _ g3
 have i2:c * 2 ^ (63 - n)<2 ^ (n+1) * 2 ^ (63 - n):=Nat.mul_lt_mul_of_pos_right g4 s0
 have i3:(a+1) * 2 ^ (63 - n)<=c * 2 ^ (63 - n):=Nat.mul_le_mul_right _ (by omega)
 rw [Nat.add_mul,Nat.one_mul] at i3
 have i4:b * 2 ^ (63 - n) / 18446744073709551616=b / 2 ^ (n+1):=by rw [<- p2,Nat.mul_div_mul_right _ _ s0]
 have i5:b / 2 ^ (n+1)<2 ^ (63 - n):=by
  rw [Nat.div_lt_iff_lt_mul (Nat.pow_pos (by omega)),Nat.mul_comm,p2];omega
 have c1:((2:Int) ^ (63 - n))=((2 ^ (63 - n):Nat):Int):=by push_cast;rfl
 have c2:((2:Int) ^ (n+1))=((2 ^ (n+1):Nat):Int):=by push_cast;rfl
 have w1:IntKind.u64.wrap ((c:Int) * 2 ^ (63 - n))=((c * 2 ^ (63 - n):Nat):Int):=by rw [c1,<- Int.natCast_mul,IntKind.wrap_u64];omega
 have w2:IntKind.u64.wrap ((a:Int) * 2 ^ (63 - n))=((a * 2 ^ (63 - n):Nat):Int):=by rw [c1,<- Int.natCast_mul,IntKind.wrap_u64];omega
 have w3:IntKind.u64.wrap ((b:Int) * 2 ^ (63 - n))=((b * 2 ^ (63 - n) % 18446744073709551616:Nat):Int):=by rw [c1,<- Int.natCast_mul,IntKind.wrap_u64];omega
 have w4:bits .or .u64 (IntKind.u64.wrap ((a:Int) * 2 ^ (63 - n))) ((b:Int) / 2 ^ (64 - (63 - n)))=((a * 2 ^ (63 - n)+b / 2 ^ (n+1):Nat):Int):=by
  have o:=bits_or_u64_nat (a * 2 ^ (63 - n)) (b / 2 ^ (n+1)) (by omega) (by omega)
  rw [w2,t1,c2,<- Int.natCast_ediv,o,Nat.mul_comm a,<- Nat.two_pow_add_eq_or_of_lt i5]
 refine ⟨_,_,_,w1,w4,w3,?_,by omega,by omega,by omega,?_,by omega,by omega,?_⟩
 . rw [c1,<- Int.natCast_mul]
 . omega
 . rw [c1,Int.add_mul,Int.mul_right_comm,<- Int.natCast_mul,<- Int.natCast_mul]
   generalize a * 2 ^ (63 - n)=A at *
   generalize b * 2 ^ (63 - n)=E at *
   omega
theorem dF {x x' y y':Int}(hx:x=x') (hy:y=y'):Ending.returned (.tuple #[vU x,vU y])=.returned (.tuple #[vU x',vU y']):=by rw [hx,hy]
theorem aB6 (hi lo y U L Y Y1 Y0 L1 L0 Q P T N Q2 P2 T2 R:Int) (n:Nat) (w:World)
 (_h1:0<=hi) (_h2:0<=lo) (h3:aD y) (hlt:hi<y) (hz:(hi == 0)=false) (hy0:(y == 0)=false) (b1:aM y=(n:Int)+1) (b2:n<=63)
 (e1:IntKind.u64.wrap (y * 2 ^ (63 - n))=Y) (e4:bits .or .u64 (IntKind.u64.wrap (hi * 2 ^ (63 - n))) (lo / 2 ^ (64 - (63 - n)))=U) (e5:IntKind.u64.wrap (lo * 2 ^ (63 - n))=L)
 (e2:Y / 4294967296=Y1) (e3:bits .and .u64 Y 4294967295=Y0) (e6:L / 4294967296=L1) (e7:bits .and .u64 L 4294967295=L0)
 (u0:0<=U) (y1:2147483648<=Y1) (y1':Y1<=4294967295) (l10:0<=L1) (l11:L1<=4294967295) (l00:0<=L0) (l01:L0<=4294967295) (_yy0:0<=Y) (_ll0:0<=L)
 (e8:U / Y1=Q) (e9:Q * Y1=P) (q0:0<=Q) (q1:Q<=4294967297) (p0:0<=P) (p1:P<=U) (p2:U - P<4294967296) (p3:U<18446744073709551616)
 (D1:Divd U L1 Y Y1 Y0) (t1:qd U L1 Y=T) (t2:T<=Q)
 (e10:IntKind.u64.wrap (IntKind.u64.wrap (IntKind.u64.wrap (U * 4294967296)+L1) - IntKind.u64.wrap (T * Y))=N)
 (n0:0<=N) (e11:N / Y1=Q2) (e12:Q2 * Y1=P2) (q20:0<=Q2) (q21:Q2<=4294967297) (p20:0<=P2) (p21:P2<=N) (p22:N - P2<4294967296) (p23:N<18446744073709551616)
 (D2:Divd N L0 Y Y1 Y0) (t3:qd N L0 Y=T2) (t4:T2<=Q2)
 (e13:IntKind.u64.wrap (IntKind.u64.wrap (IntKind.u64.wrap (N * 4294967296)+L0) - IntKind.u64.wrap (T2 * Y))=R) (_r0:0<=R) (_r1:R<18446744073709551616)
 (t10:0<=T) (t11:T<=4294967295) (t20:0<=T2) (t21:T2<=4294967295) :
 Cs 283 #[vU hi,vU lo,vU y] w (.tuple #[vU (T * 4294967296+T2),vU (R / 2 ^ (63 - n))]):=by
 go_enter Tryz.func283,Tryz.ntmps283
 go_wp2_with (go_at_call 232;refine (gC y h3 _).mono ?_;rintro e w' ⟨rfl,rfl⟩)
 go_loop [15,16] (fun a b=>∃ q r:Int,a=vU q/\b=vU r/\q * Y1+r=U/\0<=q/\q<=4294967297/\0<=r/\r<4294967296/\T<=q) (fun a _=>(intOf a).toNat)
 case atStart=>exact ⟨Q,U - P,by first | rfl | rw [e8],by first | rfl | rw [e8] | rw [e8,e9],by rw [e9];omega,by omega,by omega,by omega,by omega,by omega⟩
 case round =>
  obtain ⟨q,r,rfl,rfl,hqr,a1,a2,a3,a4,a5⟩:=hrel
  have HQ:Hid (q * Y1+r=U):=hqr
  clear hqr
  have hp:=D1.prod a1 a2
  obtain ⟨p,hpp⟩:∃ p,q * Y0=p:=⟨_,rfl⟩
  rw [hpp] at hp
  rcases (by omega:(4294967296<=q/\r+Y1<4294967296) \/ (4294967296<=q/\4294967296<=r+Y1) \/ (q<4294967296/\4294967296 * r+L1<p/\r+Y1<4294967296) \/ (q<4294967296/\4294967296 * r+L1<p/\4294967296<=r+Y1) \/ (q<4294967296/\p<=4294967296 * r+L1)) with ⟨c1,c2⟩ | ⟨c1,c2⟩ | ⟨c1,c3,c2⟩ | ⟨c1,c3,c2⟩ | ⟨c1,c3⟩
  . have d1:=D1.down1 c1
    rw [t1] at d1
    go_wp2
    go_round
    case rel=>exact ⟨q - 1,r+Y1,rfl,rfl,aS HQ.out,by omega,by omega,by omega,by omega,by omega⟩
    case measure=>simp [intOf];omega
  . have hT:q - 1=T:=(D1.broke (aS HQ.out) (D1.down1 c1) (by omega) (by omega)).trans t1
    go_wp2
    go_loop [18,16] (fun a b=>∃ q r:Int,a=vU q/\b=vU r/\q * Y1+r=N/\0<=q/\q<=4294967297/\0<=r/\r<4294967296/\T2<=q) (fun a _=>(intOf a).toNat)
    case atStart=>exact ⟨Q2,N - P2,by first | rfl | rw [e11],by first | rfl | rw [e11] | rw [e11,e12],by rw [e12];omega,by omega,by omega,by omega,by omega,by omega⟩
    case round =>
     obtain ⟨q,r,rfl,rfl,hqr,a1,a2,a3,a4,a5⟩:=hrel
     have HQ:Hid (q * Y1+r=N):=hqr
     clear hqr
     have hp:=D2.prod a1 a2
     obtain ⟨p,hpp⟩:∃ p,q * Y0=p:=⟨_,rfl⟩
     rw [hpp] at hp
     rcases (by omega:(4294967296<=q/\r+Y1<4294967296) \/ (4294967296<=q/\4294967296<=r+Y1) \/ (q<4294967296/\4294967296 * r+L0<p/\r+Y1<4294967296) \/ (q<4294967296/\4294967296 * r+L0<p/\4294967296<=r+Y1) \/ (q<4294967296/\p<=4294967296 * r+L0)) with ⟨c1,c2⟩ | ⟨c1,c2⟩ | ⟨c1,c3,c2⟩ | ⟨c1,c3,c2⟩ | ⟨c1,c3⟩
     . have d1:=D2.down1 c1
       rw [t3] at d1
       go_wp2
       go_round
       case rel=>exact ⟨q - 1,r+Y1,rfl,rfl,aS HQ.out,by omega,by omega,by omega,by omega,by omega⟩
       case measure=>simp [intOf];omega
     . have hT:q - 1=T2:=(D2.broke (aS HQ.out) (D2.down1 c1) (by omega) (by omega)).trans t3
       go_wp2
       go_ret2
       exact ⟨dF rfl rfl,rfl⟩
     . have d1:=D2.down2 HQ.out (by rw [hpp];exact c3)
       rw [t3] at d1
       have g1:decide (4294967296<=q)=false:=by simp;omega
       go_wp2
       go_round
       case rel=>exact ⟨q - 1,r+Y1,rfl,rfl,aS HQ.out,by omega,by omega,by omega,by omega,by omega⟩
       case measure=>simp [intOf];omega
     . have hT:q - 1=T2:=(D2.broke (aS HQ.out) (D2.down2 HQ.out (by rw [hpp];exact c3)) (by omega) (by omega)).trans t3
       have g1:decide (4294967296<=q)=false:=by simp;omega
       go_wp2
       go_ret2
       exact ⟨dF rfl rfl,rfl⟩
     . have hT:T2=q:=((D2.done HQ.out (by rw [t3];exact a5) (by rw [hpp];exact c3)).trans t3).symm
       have g1:decide (4294967296<=q)=false:=by simp;omega
       subst hT
       go_wp2
       go_ret2
       exact ⟨dF rfl rfl,rfl⟩
  . have d1:=D1.down2 HQ.out (by rw [hpp];exact c3)
    rw [t1] at d1
    have g1:decide (4294967296<=q)=false:=by simp;omega
    go_wp2
    go_round
    case rel=>exact ⟨q - 1,r+Y1,rfl,rfl,aS HQ.out,by omega,by omega,by omega,by omega,by omega⟩
    case measure=>simp [intOf];omega
  . have hT:q - 1=T:=(D1.broke (aS HQ.out) (D1.down2 HQ.out (by rw [hpp];exact c3)) (by omega) (by omega)).trans t1
    have g1:decide (4294967296<=q)=false:=by simp;omega
    go_wp2
    go_loop [18,16] (fun a b=>∃ q r:Int,a=vU q/\b=vU r/\q * Y1+r=N/\0<=q/\q<=4294967297/\0<=r/\r<4294967296/\T2<=q) (fun a _=>(intOf a).toNat)
    case atStart=>exact ⟨Q2,N - P2,by first | rfl | rw [e11],by first | rfl | rw [e11] | rw [e11,e12],by rw [e12];omega,by omega,by omega,by omega,by omega,by omega⟩
    case round =>
     obtain ⟨q,r,rfl,rfl,hqr,a1,a2,a3,a4,a5⟩:=hrel
     have HQ:Hid (q * Y1+r=N):=hqr
     clear hqr
     have hp:=D2.prod a1 a2
     obtain ⟨p,hpp⟩:∃ p,q * Y0=p:=⟨_,rfl⟩
     rw [hpp] at hp
     rcases (by omega:(4294967296<=q/\r+Y1<4294967296) \/ (4294967296<=q/\4294967296<=r+Y1) \/ (q<4294967296/\4294967296 * r+L0<p/\r+Y1<4294967296) \/ (q<4294967296/\4294967296 * r+L0<p/\4294967296<=r+Y1) \/ (q<4294967296/\p<=4294967296 * r+L0)) with ⟨c1,c2⟩ | ⟨c1,c2⟩ | ⟨c1,c3,c2⟩ | ⟨c1,c3,c2⟩ | ⟨c1,c3⟩
     . have d1:=D2.down1 c1
       rw [t3] at d1
       go_wp2
       go_round
       case rel=>exact ⟨q - 1,r+Y1,rfl,rfl,aS HQ.out,by omega,by omega,by omega,by omega,by omega⟩
       case measure=>simp [intOf];omega
     . have hT:q - 1=T2:=(D2.broke (aS HQ.out) (D2.down1 c1) (by omega) (by omega)).trans t3
       go_wp2
       go_ret2
       exact ⟨dF rfl rfl,rfl⟩
     . have d1:=D2.down2 HQ.out (by rw [hpp];exact c3)
       rw [t3] at d1
       have g1:decide (4294967296<=q)=false:=by simp;omega
       go_wp2
       go_round
       case rel=>exact ⟨q - 1,r+Y1,rfl,rfl,aS HQ.out,by omega,by omega,by omega,by omega,by omega⟩
       case measure=>simp [intOf];omega
     . have hT:q - 1=T2:=(D2.broke (aS HQ.out) (D2.down2 HQ.out (by rw [hpp];exact c3)) (by omega) (by omega)).trans t3
       have g1:decide (4294967296<=q)=false:=by simp;omega
       go_wp2
       go_ret2
       exact ⟨dF rfl rfl,rfl⟩
     . have hT:T2=q:=((D2.done HQ.out (by rw [t3];exact a5) (by rw [hpp];exact c3)).trans t3).symm
       have g1:decide (4294967296<=q)=false:=by simp;omega
       subst hT
       go_wp2
       go_ret2
       exact ⟨dF rfl rfl,rfl⟩
  . have hT:T=q:=((D1.done HQ.out (by rw [t1];exact a5) (by rw [hpp];exact c3)).trans t1).symm
    have g1:decide (4294967296<=q)=false:=by simp;omega
    subst hT
    go_wp2
    go_loop [18,16] (fun a b=>∃ q r:Int,a=vU q/\b=vU r/\q * Y1+r=N/\0<=q/\q<=4294967297/\0<=r/\r<4294967296/\T2<=q) (fun a _=>(intOf a).toNat)
    case atStart=>exact ⟨Q2,N - P2,by first | rfl | rw [e11],by first | rfl | rw [e11] | rw [e11,e12],by rw [e12];omega,by omega,by omega,by omega,by omega,by omega⟩
    case round =>
     obtain ⟨q,r,rfl,rfl,hqr,a1,a2,a3,a4,a5⟩:=hrel
     have HQ:Hid (q * Y1+r=N):=hqr
     clear hqr
     have hp:=D2.prod a1 a2
     obtain ⟨p,hpp⟩:∃ p,q * Y0=p:=⟨_,rfl⟩
     rw [hpp] at hp
     rcases (by omega:(4294967296<=q/\r+Y1<4294967296) \/ (4294967296<=q/\4294967296<=r+Y1) \/ (q<4294967296/\4294967296 * r+L0<p/\r+Y1<4294967296) \/ (q<4294967296/\4294967296 * r+L0<p/\4294967296<=r+Y1) \/ (q<4294967296/\p<=4294967296 * r+L0)) with ⟨c1,c2⟩ | ⟨c1,c2⟩ | ⟨c1,c3,c2⟩ | ⟨c1,c3,c2⟩ | ⟨c1,c3⟩
     . have d1:=D2.down1 c1
       rw [t3] at d1
       go_wp2
       go_round
       case rel=>exact ⟨q - 1,r+Y1,rfl,rfl,aS HQ.out,by omega,by omega,by omega,by omega,by omega⟩
       case measure=>simp [intOf];omega
     . have hT:q - 1=T2:=(D2.broke (aS HQ.out) (D2.down1 c1) (by omega) (by omega)).trans t3
       go_wp2
       go_ret2
       exact ⟨dF rfl rfl,rfl⟩
     . have d1:=D2.down2 HQ.out (by rw [hpp];exact c3)
       rw [t3] at d1
       have g1:decide (4294967296<=q)=false:=by simp;omega
       go_wp2
       go_round
       case rel=>exact ⟨q - 1,r+Y1,rfl,rfl,aS HQ.out,by omega,by omega,by omega,by omega,by omega⟩
       case measure=>simp [intOf];omega
     . have hT:q - 1=T2:=(D2.broke (aS HQ.out) (D2.down2 HQ.out (by rw [hpp];exact c3)) (by omega) (by omega)).trans t3
       have g1:decide (4294967296<=q)=false:=by simp;omega
       go_wp2
       go_ret2
       exact ⟨dF rfl rfl,rfl⟩
     . have hT:T2=q:=((D2.done HQ.out (by rw [t3];exact a5) (by rw [hpp];exact c3)).trans t3).symm
       have g1:decide (4294967296<=q)=false:=by simp;omega
       subst hT
       go_wp2
       go_ret2
       exact ⟨dF rfl rfl,rfl⟩
def dvQ (hi lo y:Int):Int:=(hi * 18446744073709551616+lo) / y
def dvR (hi lo y:Int):Int:=(hi * 18446744073709551616+lo) % y
theorem aB7 (lo y:Int) (h2:aD lo) (h3:aD y) (hy:0<y) (w:World) :
 Cb 283 #[vU 0,vU lo,vU y] w (.tuple #[vU (dvQ 0 lo y),vU (dvR 0 lo y)]):=by
 obtain ⟨a1,a2⟩:=h2
 obtain ⟨c1,c2⟩:=h3
 have hy0:(y == 0)=false:=by simp;omega
 have d1:0<=lo / y:=Int.ediv_nonneg a1 c1
 have d2:lo / y<=lo:=Int.ediv_le_self _ a1
 go_enter Tryz.func283,Tryz.ntmps283
 go_wp2
 go_region
 all_goals
  go_wp2
  go_ret2
  exact ⟨dF (by unfold dvQ;rw [Int.zero_mul,Int.zero_add]) (by unfold dvR;rw [Int.zero_mul,Int.zero_add]),(Below.refl _ _).drew⟩
theorem aDA (hi lo y:Int) (h1:aD hi) (h2:aD lo) (h3:aD y) (hlt:hi<y) (w:World) :
 Cb 283 #[vU hi,vU lo,vU y] w (.tuple #[vU (dvQ hi lo y),vU (dvR hi lo y)]):=by
 have hi0:=h1.1
 by_cases z:hi=0
 . subst z;exact aB7 lo y h2 h3 hlt w
 have hz:(hi == 0)=false:=by simp;omega
 have hy0:(y == 0)=false:=by simp;omega
 obtain ⟨n,b1,b2,b3,b4⟩:=aW y (by omega) h3.2
 obtain ⟨U,L,Y,e1,e4,e5,f1,f2,f3,f4,f5,f6,f7,f8⟩:=aCu h1 h2 hlt b2 b3 b4
 have hS:(0:Int)<2 ^ (63 - n):=Int.pow_pos (by omega)
 have D1:Divd U (L / 4294967296) Y (Y / 4294967296) (Y % 4294967296):=⟨by omega,by omega,by omega,by omega,by omega,f4,f5,by omega,by omega⟩
 have s1:=D1.start
 have r1:=D1.rd_lt
 have q1:=D1.eq
 have t1:=D1.qd_lt
 have t1':=D1.qd_nonneg
 have D2:Divd (rd U (L / 4294967296) Y) (L % 4294967296) Y (Y / 4294967296) (Y % 4294967296):=⟨by omega,by omega,by omega,by omega,by omega,r1.1,r1.2,by omega,by omega⟩
 have s2:=D2.start
 have r2:=D2.rd_lt
 have q2:=D2.eq
 have t2:=D2.qd_lt
 have t2':=D2.qd_nonneg
 obtain ⟨g1,g2⟩:=aDE hS (by omega:0<y) f1 f8 (by omega:L=L / 4294967296 * 4294967296+L % 4294967296) q1 q2 r2.1 r2.2
 have z1:0<=U / (Y / 4294967296) * (Y / 4294967296):=Int.mul_nonneg (by omega) (by omega)
 have z2:0<=rd U (L / 4294967296) Y / (Y / 4294967296) * (Y / 4294967296):=Int.mul_nonneg (by omega) (by omega)
 have core:=aB6 hi lo y U L Y (Y / 4294967296) (Y % 4294967296) (L / 4294967296) (L % 4294967296) (U / (Y / 4294967296)) (U / (Y / 4294967296) * (Y / 4294967296)) (qd U (L / 4294967296) Y) (rd U (L / 4294967296) Y)
  (rd U (L / 4294967296) Y / (Y / 4294967296)) (rd U (L / 4294967296) Y / (Y / 4294967296) * (Y / 4294967296)) (qd (rd U (L / 4294967296) Y) (L % 4294967296) Y) (rd (rd U (L / 4294967296) Y) (L % 4294967296) Y) n w
  hi0 h2.1 h3 hlt hz hy0 b1 b2 e1 e4 e5 rfl (zE ⟨by omega,f3⟩) rfl (zE ⟨f6,f7⟩) f4 (by omega) (by omega) (by omega) (by omega) (by omega) (by omega) (by omega) f6
  rfl rfl (by omega) (by omega) (by omega) (by omega) (by omega) (by omega) D1 rfl (by omega)
  (by simp only [IntKind.wrap_u64];generalize qd U (L / 4294967296) Y * Y=M at *;omega)
  (by omega) rfl rfl (by omega) (by omega) (by omega) (by omega) (by omega) (by omega) D2 rfl (by omega)
  (by simp only [IntKind.wrap_u64];generalize qd (rd U (L / 4294967296) Y) (L % 4294967296) Y * Y=M at *;omega)
  (by omega) (by omega) (by omega) (by omega) (by omega) (by omega)
 refine core.mono ?_
 rintro e w' ⟨rfl,rfl⟩
 exact ⟨dF g1 g2,Below.refl _ _⟩
theorem aKb {w:World}{va vb:Value}{X Y:Nat}(ha:NatV w va X) (hb:NatV w vb Y) (h:X+Y<B ^ 128) :
 Calls Tryz.prog 270 #[va,vb] w fun e w'=>∃ v,e=.returned (.tuple #[v,.nilIface])/\NatV w' v (X+Y)/\Bl w w':=by
 obtain ⟨ao,n,c,b,o,f,rfl,S,t,rfl,hn⟩:=ha
 obtain ⟨bo,m,cb,bb,ob,G,rfl,S',t',rfl,hm⟩:=hb
 have h1:=eZ S S'
 rw [fM hn t hm t'] at h1
 unfold aZ at h1
 have HH:Hid (V f n+V G m<B ^ 128):=h
 clear h
 by_cases hlt:n<m
 . skip
   have hmk:=run_make_row' (P:=Tryz.prog) 203 31 (vU 0) 8 bS cH rfl .i64 .i64 (m+1) (by omega) (by omega)
   simp only [Int.natCast_add,Int.natCast_one] at hmk
   go_enter Tryz.func270,Tryz.ntmps270
   go_wp2_with fail
   refine h1.mono ?_
   rintro e wb ⟨rfl,hb1⟩
   have S1:=S'.below hb1
   have S1':=S.below hb1
   have bA:Bl wb (wb.alloc (.cells (madeCells #[vU 0] (m+1)) 31)):=bz _ _
   obtain ⟨w2,hcp,R2,hg2⟩:=pA (cz:=m+1) (made_row wb (m+1)) (S1.below bA) (Nat.le_succ m)
   have b2:Bl wb w2:=aR bA hg2 (Nat.le_refl _)
   have eV:V (fun i=>(fun i=>if i<m then G i else 0) (0+i)) (m+1)=V G m:=by
    have a:=aHX (f:=G) (n:=m) (N:=m+1) (by omega)
    rw [<- a]
    exact V_congr fun i hi=>by show (if 0+i<m then G (0+i) else 0)=cpy G m i;unfold cpy;rw [Nat.zero_add]
   have hfit:V G m+V f n<B ^ (m+1):=by
    have p:=V_lt S'.ws m
    have q:=V_lt S.ws n
    have r:B ^ n<=B ^ m:=Nat.pow_le_pow_right B_pos (by omega)
    have s:2 * B ^ m<=B ^ (m+1):=by rw [Nat.pow_succ,Nat.mul_comm];exact Nat.mul_le_mul_left _ (by decide)
    omega
   have D:=lZ (o:=0) (n:=m+1) (c:=m+1) R2 (by omega) (Nat.le_refl _) (by unfold maxLen;omega) (S1'.below b2) (fun q=>Nat.ne_of_lt (S1'.blk q)) (by omega) (by rw [eV];exact hfit)
   rw [eV] at D
   have b3:Bl w w2:=hb1.trans (b2.mono hb1.size)
   have hsz:=hb1.size
   clear R2 hg2 bA b2 eV hfit
   go_wp2_with fail
   refine D.mono ?_
   rintro e w3 ⟨rfl,hg3,F,R3,_,hv⟩
   have b4:Bl w w3:=aR b3 hg3 hsz
   have e0:(fun i=>F (0+i))=F:=funext fun i=>by rw [Nat.zero_add]
   rw [e0] at hv
   obtain ⟨nv,hl⟩:=bG R3 (by unfold maxLen;omega) (X:=V f n+V G m) (by rw [hv];exact Nat.add_comm _ _) HH.out
   have TT:=hI (aG R3 (by unfold maxLen;omega)) hl
   go_wp2_with fail
   refine TT.mono ?_
   rintro e w4 ⟨rfl,rfl⟩
   go_wp2
   refine bodyPost_ret (v:=.tuple #[.slice (some ⟨wb.heap.size,0,none⟩) (tl F (m+1)) (tl F (m+1)),.nilIface]) (by simp [results,Tryz.results270,go_sem]) rfl ⟨_,rfl,nv,b4⟩
 . skip
   have hmk:=run_make_row' (P:=Tryz.prog) 203 31 (vU 0) 8 bS cH rfl .i64 .i64 (n+1) (by omega) (by omega)
   simp only [Int.natCast_add,Int.natCast_one] at hmk
   go_enter Tryz.func270,Tryz.ntmps270
   go_wp2_with fail
   refine h1.mono ?_
   rintro e wb ⟨rfl,hb1⟩
   have S1:=S.below hb1
   have S1':=S'.below hb1
   have bA:Bl wb (wb.alloc (.cells (madeCells #[vU 0] (n+1)) 31)):=bz _ _
   obtain ⟨w2,hcp,R2,hg2⟩:=pA (cz:=n+1) (made_row wb (n+1)) (S1.below bA) (Nat.le_succ n)
   have b2:Bl wb w2:=aR bA hg2 (Nat.le_refl _)
   have eV:V (fun i=>(fun i=>if i<n then f i else 0) (0+i)) (n+1)=V f n:=by
    have a:=aHX (f:=f) (n:=n) (N:=n+1) (by omega)
    rw [<- a]
    exact V_congr fun i hi=>by show (if 0+i<n then f (0+i) else 0)=cpy f n i;unfold cpy;rw [Nat.zero_add]
   have hfit:V f n+V G m<B ^ (n+1):=by
    have p:=V_lt S.ws n
    have q:=V_lt S'.ws m
    have r:B ^ m<=B ^ n:=Nat.pow_le_pow_right B_pos (by omega)
    have s:2 * B ^ n<=B ^ (n+1):=by rw [Nat.pow_succ,Nat.mul_comm];exact Nat.mul_le_mul_left _ (by decide)
    omega
   have D:=lZ (o:=0) (n:=n+1) (c:=n+1) R2 (by omega) (Nat.le_refl _) (by unfold maxLen;omega) (S1'.below b2) (fun q=>Nat.ne_of_lt (S1'.blk q)) (by omega) (by rw [eV];exact hfit)
   rw [eV] at D
   have b3:Bl w w2:=hb1.trans (b2.mono hb1.size)
   have hsz:=hb1.size
   clear R2 hg2 bA b2 eV hfit
   go_wp2_with fail
   refine D.mono ?_
   rintro e w3 ⟨rfl,hg3,F,R3,_,hv⟩
   have b4:Bl w w3:=aR b3 hg3 hsz
   have e0:(fun i=>F (0+i))=F:=funext fun i=>by rw [Nat.zero_add]
   rw [e0] at hv
   obtain ⟨nv,hl⟩:=bG R3 (by unfold maxLen;omega) (X:=V f n+V G m) (by rw [hv]) HH.out
   have TT:=hI (aG R3 (by unfold maxLen;omega)) hl
   go_wp2_with fail
   refine TT.mono ?_
   rintro e w4 ⟨rfl,rfl⟩
   go_wp2
   refine bodyPost_ret (v:=.tuple #[.slice (some ⟨wb.heap.size,0,none⟩) (tl F (n+1)) (tl F (n+1)),.nilIface]) (by simp [results,Tryz.results270,go_sem]) rfl ⟨_,rfl,nv,b4⟩
theorem aCU (q p:Nat):2 ^ (64 * q+p)=B ^ q * 2 ^ p:=by rw [Nat.pow_add,aLT]
theorem aMr {x p:Nat}(hp:p<=64):(x:Int) / 2 ^ (64 - p)=((x * 2 ^ p / B:Nat):Int):=by
 rw [<- gV hp,Nat.mul_div_mul_right _ _ (Nat.pow_pos (by omega)),aL];rfl
theorem aHL {x p:Nat}(hx:x<B):x * 2 ^ p / B<2 ^ p:=by
 rw [Nat.div_lt_iff_lt_mul B_pos,Nat.mul_comm (2 ^ p)]
 exact Nat.mul_lt_mul_of_pos_right hx (Nat.pow_pos (by omega))
theorem aLL {β v z l h P y a:Nat}(e:β * h+l=y) (hv:v+z * P=a):v+(l+z) * P+h * (P * β)=a+y * P:=by
 rw [<- e];grind
theorem aLK {a x P Q t:Nat}:a * (Q * t)+x * t * (Q * P)=(a+x * P) * (Q * t):=by grind
theorem jE {w:World}{ao:Option Addr}{n c b o:Nat}{f:Nat -> Nat}(S:Sl w ao n c b o f) (hn:n<=1000) (s q p:Nat) (hsq:s=64 * q+p) (hp:p<64) (hq:q<=1000) :
 Calls Tryz.prog 228 #[.slice ao n c,vI (s:Int)] w fun e w'=>e=.returned (.slice (some ⟨w.heap.size,0,none⟩) (q+n+1) (q+n+1))/\Bl w w' /\
  ∃ F,Row w' w.heap.size (q+n+1) F/\V F (q+n+1)=V f n * 2 ^ s:=by
 have hmk:=run_make_row' (P:=Tryz.prog) 203 31 (vU 0) 8 bS cH rfl .i64 .i64 (q+n+1) (by omega) (by omega)
 simp only [Int.natCast_add,Int.natCast_one] at hmk
 have e1:(s:Int) / 64=(q:Int):=by omega
 have e2:(s:Int) % 64=(p:Int):=by omega
 have HS:Hid (Sl w ao n c b o f):=S
 have HQ:Hid (s=64 * q+p):=hsq
 clear S hsq
 go_enter Tryz.func228,Tryz.ntmps228
 go_wp2
 simp only [e2]
 go_loopw [22] (fun i wr=>∃ (k:Nat) (F':Nat -> Nat),i=vI (k:Int)/\k<=n/\Row wr w.heap.size (q+n+1) F'/\Bl w wr/\(∀ j,q+k<j -> F' j=0)/\F' (q+k)<2 ^ p/\V F' (q+k+1)=V f k * 2 ^ s) (fun i _=>n - (intOf i).toNat)
 case atStart=>exact ⟨0,fun _=>0,rfl,Nat.zero_le _,made_row _ _,bz _ _,fun _ _=>rfl,Nat.pow_pos (by omega),by rw [V_nought,V_zero,Nat.zero_mul]⟩
 case round =>
  obtain ⟨k,F',rfl,hk,R',hbl,hz,hlo,hv⟩:=hrel
  have HZ:Hid (∀ j,q+k<j -> F' j=0):=hz
  have HV:Hid (V F' (q+k+1)=V f k * 2 ^ s):=hv
  have HB:Hid (Bl w wr):=hbl
  have HR:Hid (Row wr w.heap.size (q+n+1) F'):=R'
  have HL:Hid (F' (q+k)<2 ^ p):=hlo
  clear hz hv hlo
  by_cases c1:k<n
  . obtain rfl:=HS.out.addr (by omega)
    have hc:=(HS.out.below hbl).cell k c1
    have cz:=R'.row.cell (i:=q+k) (by omega)
    have fz:=R'.row.frozen (q+k)
    have cz1:=R'.row.cell (i:=q+k+1) (by omega)
    have fz1:=R'.row.frozen (q+k+1)
    rw [HZ.out (q+k+1) (by omega)] at cz1
    clear hbl R'
    go_wp2
    go_region
    all_goals
     go_wp2
     go_roundw
     case rel =>
      have u1:=wO (x:=f k) (Nat.le_of_lt hp) HL.out
      have u2:=aMr (x:=f k) (Nat.le_of_lt hp)
      have u3:=tC (x:=f k) (Nat.le_of_lt hp) HL.out
      have u4:=aHL (p:=p) (HS.out.ws k)
      rw [u1,u2]
      have hB2:f k * 2 ^ p / B<B:=Nat.lt_trans u4 (by have:(2:Nat) ^ p<2 ^ 64:=Nat.pow_lt_pow_right (by omega) hp;exact this)
      refine ⟨k+1,put (put F' (q+k) (f k * 2 ^ p % B+F' (q+k))) (q+k+1) (f k * 2 ^ p / B),by go_num,by omega,((HR.out.set (q+k) u3).set (q+k+1) hB2).drew,((HB.out.setCell (Nat.le_refl _) _).setCell (Nat.le_refl _) _).drew,?_,?_,?_⟩
      . intro j hj
        rw [put_ne (by omega),put_ne (by omega)]
        exact HZ.out j (by omega)
      . rw [show q+(k+1)=q+k+1 by omega,put_at];exact u4
      . rw [show q+(k+1)+1=q+k+1+1 by omega,V_succ,V_put_low (Nat.le_refl _),put_at,V_succ,V_put_low (Nat.le_refl _),put_at,V_succ f k]
        have hv:=HV.out
        rw [V_succ] at hv
        rw [Nat.pow_succ,aLL (Nat.div_add_mod (f k * 2 ^ p) B) hv,HQ.out,aCU,Nat.pow_add]
        exact aLK
     case measure=>simp [intOf];omega
  . obtain rfl:k=n:=by omega
    clear R' hbl
    go_wp2
    go_ret
    exact ⟨rfl,HB.out,F',HR.out,HV.out⟩
theorem aJa {b k x r t j:Nat}{u:Nat}(hx:x=2 ^ t * (2 * j+1)) (hb:b=2 * u * 2 ^ t):x * k+r * (k * b)=k * 2 ^ t * (2 * (j+r * u)+1):=by
 rw [hx,hb];grind
theorem aLU {f:Nat -> Nat}(hf:Ws f) {n k:Nat}(hk:k<n) (hz:∀ i,i<k -> f i=0) (h0:f k ≠ 0):∃ j,V f n=2 ^ (64 * k+Lib.ctz 64 (f k)) * (2 * j+1):=by
 obtain ⟨j,e,ht⟩:=gI h0 (hf k)
 have e1:V f k=0:=by rw [V_congr (g:=fun _=>0) hz,V_nought]
 have s:=V_split f (k+1) (n - (k+1))
 rw [show k+1+(n - (k+1))=n by omega,V_succ,e1,Nat.zero_add,Nat.pow_succ] at s
 refine ⟨j+V (fun i=>f (k+1+i)) (n - (k+1)) * 2 ^ (63 - Lib.ctz 64 (f k)),?_⟩
 rw [s,aCU]
 refine aJa e ?_
 rw [Nat.mul_comm 2,<- Nat.pow_succ,<- Nat.pow_add,show 63 - Lib.ctz 64 (f k)+1+Lib.ctz 64 (f k)=64 by omega]
 rfl
theorem aJb {v z j s:Nat}(h:v=2 ^ z * (2 * j+1)):(z<s) ↔ v % 2 ^ s ≠ 0:=by
 constructor
 . intro hlt e
   obtain ⟨c,hc⟩:=Nat.dvd_of_mod_eq_zero e
   rw [h,show s=z+1+(s - z - 1) by omega,Nat.pow_add,Nat.pow_succ,Nat.mul_assoc,Nat.mul_assoc] at hc
   have:=Nat.eq_of_mul_eq_mul_left (Nat.pow_pos (by omega)) hc
   omega
 . intro hne
   rcases Nat.lt_or_ge z s with q | q
   . exact q
   . exfalso
     apply hne
     rw [h,show z=s+(z - s) by omega,Nat.pow_add,Nat.mul_assoc]
     exact Nat.mul_mod_right _ _
theorem aFU {w:World}(hT:Tab w) {ao:Option Addr}{n c b o:Nat}{f:Nat -> Nat}(S:Sl w ao n c b o f) (hn:n<=1000) (h0:V f n ≠ 0) :
 Calls Tryz.prog 262 #[.slice ao n c] w fun e w'=>∃ z j:Nat,e=.returned (vI (z:Int))/\V f n=2 ^ z * (2 * j+1)/\z<=64 * n/\w'=w:=by
 have HS:Hid (Sl w ao n c b o f):=S
 have H0:Hid (V f n ≠ 0):=h0
 clear S h0
 go_enter Tryz.func262,Tryz.ntmps262
 go_wp2
 go_loop [7] (fun i=>∃ k:Nat,i=vI (k:Int)/\k<=n/\∀ i,i<k -> f i=0) (fun i=>n - (intOf i).toNat)
 case atStart=>exact ⟨0,rfl,Nat.zero_le _,fun i hi=>absurd hi (by omega)⟩
 case round =>
  obtain ⟨k,rfl,hk,hz⟩:=hrel
  have HZ:Hid (∀ i,i<k -> f i=0):=hz
  clear hz
  by_cases c1:k<n
  . obtain rfl:=HS.out.addr (by omega)
    have hc:=HS.out.cell k c1
    by_cases c2:f k=0
    . have HC:Hid (f k=0):=c2
      rw [c2] at hc
      clear c2
      go_wp2
      go_round
      case rel =>
       refine ⟨k+1,by go_num,by omega,fun i hi=>?_⟩
       by_cases q:i=k
       . rw [q];exact HC.out
       . exact HZ.out i (by omega)
      case measure=>simp [intOf];omega
    . have c2':(((f k:Nat):Int) == 0)=false:=beq_eq_false_iff_ne.mpr (by omega)
      obtain ⟨j,ej⟩:=aLU HS.out.ws c1 HZ.out c2
      have hc64:=(gI c2 (HS.out.ws k)).choose_spec.2
      have HJ:Hid (V f n=2 ^ (64 * k+Lib.ctz 64 (f k)) * (2 * j+1)):=ej
      have hw:aD ((f k:Nat):Int):=⟨by omega,by have:=HS.out.ws k;unfold B at this;omega⟩
      have T:=bI ((f k:Nat):Int) hw w hT
      have ec:cE ((f k:Nat):Int)=((Lib.ctz 64 (f k):Nat):Int):=by unfold cE;rw [Int.toNat_natCast]
      rw [ec] at T
      clear c2 ej ec
      generalize Lib.ctz 64 (f k)=t at *
      go_wp2_with fail
      refine T.mono ?_
      rintro e wa ⟨rfl,rfl⟩
      go_wp2
      go_ret
      refine ⟨64 * k+t,j,?_,HJ.out,by omega,rfl⟩
      show Ending.returned (vI _)=_
      congr 2
      push_cast
      omega
  . exfalso
    have e:k=n:=by omega
    apply H0.out
    rw [V_congr (g:=fun _=>0) (fun i hi=>HZ.out i (by omega)),V_nought]
theorem aGn {b t a x r h c P:Nat}(h1:x * c=b * h+r) (hB:b=t * c) (hp:0<t):(a+x * (P * b)) / t=a / t+r * P+h * (P * b):=by
 have e1:x * (P * b)=t * (x * c * P):=by rw [hB];grind
 rw [e1,Nat.add_mul_div_left _ _ hp,h1]
 grind
theorem aGm {v x r P h b:Nat}:v+(r+x) * P+h * (P * b)=v+x * P+r * P+h * (P * b):=by grind
theorem fV {w:World}(hT:Tab w) {ao:Option Addr}{n c b o:Nat}{f:Nat -> Nat}(S:Sl w ao n c b o f) (hn:n<=1000) (s q p:Nat) (hsq:s=64 * q+p) (hp:p<64) (hqn:q<n) (h0:V f n ≠ 0) :
 Calls Tryz.prog 231 #[.slice ao n c,vI (s:Int)] w fun e w'=>e=.returned (.tuple #[.slice (some ⟨w.heap.size,0,none⟩) (n - q) (n - q),.bool (decide (V f n % 2 ^ s ≠ 0))])/\Bl w w' /\
  ∃ F,Row w' w.heap.size (n - q) F/\V F (n - q)=V f n / 2 ^ s:=by
 have hmk:=run_make_row' (P:=Tryz.prog) 203 31 (vU 0) 8 bS cH rfl .i64 .i64 (n - q) (by omega) (by omega)
 rw [show ((n - q:Nat):Int)=(n:Int) - (q:Int) by omega] at hmk
 have e1:(s:Int) / 64=(q:Int):=by omega
 have e2:(s:Int) % 64=(p:Int):=by omega
 have HS:Hid (Sl w ao n c b o f):=S
 have HQ:Hid (s=64 * q+p):=hsq
 have H0:Hid (V f n ≠ 0):=h0
 have hss:s<=100000:=by omega
 clear S hsq h0
 go_enter Tryz.func231,Tryz.ntmps231
 go_wp2
 simp only [e2]
 go_loopw [28] (fun i wr=>∃ (k:Nat) (F':Nat -> Nat),i=vI (k:Int)/\k<=n - q/\Row wr w.heap.size (n - q) F'/\Bl w wr/\(∀ j,k<=j -> F' j=0)/\(k=0 \/ F' (k - 1)<2 ^ (64 - p))/\V F' k=V (fun i=>f (q+i)) k / 2 ^ p) (fun i _=>n - q - (intOf i).toNat)
 case atStart=>exact ⟨0,fun _=>0,rfl,Nat.zero_le _,made_row _ _,bz _ _,fun _ _=>rfl,Or.inl rfl,by rw [V_zero,V_zero,Nat.zero_div]⟩
 case round =>
  obtain ⟨k,F',rfl,hk,R',hbl,hz,hlo,hv⟩:=hrel
  have HZ:Hid (∀ j,k<=j -> F' j=0):=hz
  have HV:Hid (V F' k=V (fun i=>f (q+i)) k / 2 ^ p):=hv
  have HB:Hid (Bl w wr):=hbl
  have HR:Hid (Row wr w.heap.size (n - q) F'):=R'
  have HL:Hid (k=0 \/ F' (k - 1)<2 ^ (64 - p)):=hlo
  clear hz hv hlo
  by_cases c1:k<n - q
  . obtain rfl:=HS.out.addr (by omega)
    have hc:=(HS.out.below hbl).cell (q+k) (by omega)
    have cz:=R'.row.cell (i:=k) c1
    have fz:=R'.row.frozen k
    by_cases c2:k=0
    . subst c2
      rw [Nat.add_zero] at hc
      clear hbl R'
      go_wp2
      go_roundw
      case rel =>
       have d1:((f q:Nat):Int) / 2 ^ p=((f q / 2 ^ p:Nat):Int):=by rw [aL];rfl
       have d2:f q / 2 ^ p<2 ^ (64 - p):=by
        rw [Nat.div_lt_iff_lt_mul (Nat.pow_pos (by omega)),gV (Nat.le_of_lt hp)];exact HS.out.ws q
       have d3:f q / 2 ^ p<B:=Nat.lt_of_le_of_lt (Nat.div_le_self _ _) (HS.out.ws q)
       rw [d1]
       refine ⟨1,put F' 0 (f q / 2 ^ p),rfl,by omega,HR.out.set 0 d3,HB.out.setCell (Nat.le_refl _) _,fun j hj=>?_,Or.inr d2,?_⟩
       . rw [put_ne (by omega)];exact HZ.out j (by omega)
       . rw [V_succ,V_succ,V_zero,V_zero,put_at,Nat.pow_zero,Nat.mul_one,Nat.mul_one,Nat.zero_add,Nat.zero_add,Nat.add_zero]
      case measure=>simp [intOf];omega
    . have cz1:=R'.row.cell (i:=k - 1) (by omega)
      have fz1:=R'.row.frozen (k - 1)
      have c3:(0:Int)<(k:Int):=by omega
      have hbk:=HS.out.blk (by omega)
      have nb1:¬ (w.heap.size=b):=by omega
      have nb2:¬ (b=w.heap.size):=by omega
      have nk1:¬ (k=k - 1):=by omega
      have nk2:¬ (k - 1=k):=by omega
      clear hbl R' hbk
      go_wp2
      go_region
      all_goals
       go_wp2
       go_roundw
       case rel =>
        obtain ⟨kk,hkk⟩:∃ kk,k=kk+1:=⟨k - 1,by omega⟩
        subst hkk
        rw [Nat.add_sub_cancel] at *
        have hlo:=HL.out.resolve_left (by omega)
        have d1:((f (q+(kk+1)):Nat):Int) / 2 ^ p=((f (q+(kk+1)) / 2 ^ p:Nat):Int):=by rw [aL];rfl
        have d2:f (q+(kk+1)) / 2 ^ p<2 ^ (64 - p):=by
         rw [Nat.div_lt_iff_lt_mul (Nat.pow_pos (by omega)),gV (Nat.le_of_lt hp)];exact HS.out.ws _
        have d3:f (q+(kk+1)) / 2 ^ p<B:=Nat.lt_of_le_of_lt (Nat.div_le_self _ _) (HS.out.ws _)
        have u1:=wO (x:=f (q+(kk+1))) (p:=64 - p) (by omega) hlo
        have u3:=tC (x:=f (q+(kk+1))) (p:=64 - p) (by omega) hlo
        have bp:B=2 ^ p * 2 ^ (64 - p):=by rw [Nat.mul_comm,gV (Nat.le_of_lt hp)]
        have hh:f (q+(kk+1)) * 2 ^ (64 - p) / B=f (q+(kk+1)) / 2 ^ p:=by rw [bp,Nat.mul_div_mul_right _ _ (Nat.pow_pos (by omega))]
        have dg:=aGn (a:=V (fun i=>f (q+i)) (kk+1)) (P:=B ^ kk) (Nat.div_add_mod (f (q+(kk+1)) * 2 ^ (64 - p)) B).symm bp (Nat.pow_pos (by omega))
        rw [hh] at dg
        rw [d1,u1]
        refine ⟨kk+1+1,put (put F' (kk+1) (f (q+(kk+1)) / 2 ^ p)) kk (f (q+(kk+1)) * 2 ^ (64 - p) % B+F' kk),by go_num,by omega,((HR.out.set (kk+1) d3).set kk u3).drew,((HB.out.setCell (Nat.le_refl _) _).setCell (Nat.le_refl _) _).drew,fun j hj=>?_,Or.inr ?_,?_⟩
        . rw [put_ne (by omega),put_ne (by omega)];exact HZ.out j (by omega)
        . rw [Nat.add_sub_cancel,put_ne (by omega),put_at];exact d2
        . have hv:=HV.out
          rw [V_succ F'] at hv
          rw [V_succ,put_ne (by omega),put_at,V_succ,V_put_low (Nat.le_refl _),V_put_low (by omega),put_at,V_succ (fun i=>f (q+i)) (kk+1),Nat.pow_succ,dg,<- hv]
          exact aGm
       case measure=>simp [intOf];omega
  . obtain rfl:k=n - q:=by omega
    have Z:=aFU (hT.next hbl) (HS.out.below hbl) hn H0.out
    clear R' hbl
    go_wp2_with fail
    refine Z.mono ?_
    rintro e wa ⟨z,j,rfl,hzj,hzn,rfl⟩
    have om:=aJb (s:=s) hzj
    have HD:Hid (decide ((z:Int)<(s:Int))=decide (V f n % 2 ^ s ≠ 0)):=by
     rw [Bool.eq_iff_iff,decide_eq_true_iff,decide_eq_true_iff]
     exact ⟨fun h=>om.mp (by omega),fun h=>by have:=om.mpr h;omega⟩
    clear hzj om
    go_wp2
    refine bodyPost_ret (v:=.tuple #[.slice (some ⟨w.heap.size,0,none⟩) (n - q) (n - q),.bool (decide ((z:Int)<(s:Int)))]) (by simp [results,Tryz.results231,go_sem]) rfl ⟨by rw [HD.out],HB.out,F',HR.out,?_⟩
    have e:=V_split f q (n - q)
    rw [show q+(n - q)=n by omega] at e
    rw [HV.out,HQ.out,aCU,<- Nat.div_div_eq_div_mul,e,Nat.add_mul_div_right _ _ (Bp_pos q),Nat.div_eq_of_lt (V_lt HS.out.ws q),Nat.zero_add]
theorem aHU (w:World):(zeroValue 31).run Tryz.prog w=.ok (vU 0) w:=by kernel_rfl
theorem rR         {g N : Nat} : ∀ (n o : Nat) (w : World) (F : Nat → Nat), Row w g N F → Row (w.setCells g o (List.replicate n (.int .u64 0))) g N (fun i => if o ≤ i ∧ i < o + n then 0 else F i)
  | 0, o, w, F, R => ⟨R.row.congr fun i _ => by rw [if_neg (by omega)], fun i => by show (if o ≤ i ∧ i < o + 0 then 0 else F i) < B; rw [if_neg (by omega)]; exact R.ws i⟩
  | n + 1, o, w, F, R => by
    have h := rR         n (o + 1) _ _ (R.set o (r := 0) B_pos)
    rw [List.replicate_succ]
    refine ⟨h.row.congr fun i _ => ?_, fun i => ?_⟩
    · unfold put
      by_cases c : i = o
      · subst c; rw [if_neg (by omega), if_pos rfl, if_pos (by omega)]
      · by_cases d : o ≤ i ∧ i < o + (n + 1)
        · rw [if_pos (by omega), if_pos d]
        · rw [if_neg (by omega), if_neg c, if_neg d]
    · show (if o ≤ i ∧ i < o + (n + 1) then 0 else F i) < B
      split
      · exact B_pos
      · exact R.ws i
theorem nP {w0:World}{g:Nat}:∀ (n o:Nat) (w:World),w0.grownBy w (some g) -> w0.grownBy (w.setCells g o (List.replicate n (vU 0))) (some g)
 | 0,_,_,h=>h
 | n+1,o,w,h=>by rw [List.replicate_succ];exact nP n (o+1) _ (cD h _)
def gW (hi lo d:Nat):Nat:=if d<=hi then B - 1 else (hi * B+lo) / d
theorem aL7 {hi lo d:Nat}(hlo:lo<B):gW hi lo d<B:=by
 unfold gW
 split
 . unfold B;omega
 . rename_i h
   rw [Nat.div_lt_iff_lt_mul (by omega)]
   have:(hi+1) * B<=d * B:=Nat.mul_le_mul_right _ (by omega)
   rw [Nat.add_mul,Nat.one_mul] at this
   rw [Nat.mul_comm B d]
   omega
theorem aD2 {u a b p c:Nat}:u+a * p+b * (p * c)=u+(b * c+a) * p:=by grind
theorem aGz {f g:Nat -> Nat}(hf:Ws f) {t:Nat}(h0:g t ≠ 0) (hlt:V f (t+1+1)<V g (t+1) * B):V f (t+1+1) / V g (t+1)<=gW (f (t+1)) (f t) (g t):=by
 have hD:0<V g (t+1):=Nat.lt_of_lt_of_le (Bp_pos t) (oX h0)
 unfold gW
 split
 . have:V f (t+1+1) / V g (t+1)<B:=by rw [Nat.div_lt_iff_lt_mul hD,Nat.mul_comm];exact hlt
   omega
 . have a:g t * B ^ t<=V g (t+1):=by rw [V_succ];omega
   have p:0<g t * B ^ t:=Nat.mul_pos (by omega) (Bp_pos t)
   refine Nat.le_trans (Nat.div_le_div_left a p) ?_
   have e:V f (t+1+1)=V f t+(f (t+1) * B+f t) * B ^ t:=by
    rw [V_succ,V_succ,Nat.pow_succ]
    exact aD2
   rw [e,Nat.mul_comm (g t),<- Nat.div_div_eq_div_mul,Nat.add_mul_div_right _ _ (Bp_pos t),Nat.div_eq_of_lt (V_lt hf t),Nat.zero_add]
   exact Nat.le_refl _
theorem aD0 (hi lo d:Nat) (h1:hi<B) (h2:lo<B) (h3:d<B) (w:World) :
 Cb 278 #[vU (hi:Int),vU (lo:Int),vU (d:Int)] w (vU ((gW hi lo d:Nat):Int)):=by
 by_cases c:d<=hi
 . have e:gW hi lo d=18446744073709551615:=by unfold gW;rw [if_pos c];rfl
   rw [e]
   go_enter Tryz.func278,Tryz.ntmps278
   go_wp2
   go_ret
   exact ⟨rfl,Below.refl _ _⟩
 . have e:gW hi lo d=(hi * B+lo) / d:=by unfold gW;rw [if_neg c]
   unfold B at h1 h2 h3 e
   have T:=aDA (hi:Int) (lo:Int) (d:Int) ⟨by omega,by omega⟩ ⟨by omega,by omega⟩ ⟨by omega,by omega⟩ (by omega) w
   have eq:dvQ (hi:Int) (lo:Int) (d:Int)=((gW hi lo d:Nat):Int):=by rw [e];unfold dvQ;rw [Int.natCast_ediv,Int.natCast_add,Int.natCast_mul];rfl
   rw [eq] at T
   generalize gW hi lo d=gg at *
   generalize dvR (hi:Int) (lo:Int) (d:Int)=rr at *
   clear e eq
   have c':¬ ((d:Int)<=(hi:Int)):=by omega
   go_enter Tryz.func278,Tryz.ntmps278
   go_wp2_with fail
   refine T.mono ?_
   rintro e wa ⟨rfl,hba⟩
   go_wp2
   go_ret
   exact ⟨rfl,hba⟩
theorem aE3 {g D P:Nat}(h1:g * D<=P) (h2:P / D<=g) (hD:0<D):g=P / D:=by
 have:=(Nat.le_div_iff_mul_le hD).mpr h1
 omega
theorem aLt {g D P:Nat}(h1:P<g * D) (hD:0<D):P / D<g:=(Nat.div_lt_iff_lt_mul hD).mpr h1
theorem iU {w:World}{g N nq:Nat}{F:Nat -> Nat}(R:Row w g N F):Row (w.drewN nq) g N F:=⟨R.row.of_block rfl,R.ws⟩
theorem dQ {w wr:World}{row:Option Nat}{nq:Nat}(h:w.grownBy wr row):w.grownBy (wr.drewN nq) row:=⟨h.os,h.tape,h.output,h.size,h.block⟩
theorem aDt {w:World}{g N:Nat}{F:Nat -> Nat}(R:Row w g N F) (hN:0<N) {c:Nat} :
 ∃ w2,(∀ ty,(Builtin.clear_ #[203] ty #[.slice (some ⟨g,0,none⟩) N c]).run Tryz.prog w=.ok (.tuple #[]) w2)/\Row w2 g N (fun _=>0)/\w.grownBy w2 (some g):=by
 refine ⟨w.setCells g 0 (List.replicate N (vU 0)),fun ty=>Lib.run_clear_slice w 203 31 ty (vU 0) bS aHU rfl rfl g 0 N c hN (fun j hj=>?_) (fun j hj=>?_),?_,nP N 0 w (World.grownBy.refl _ _)⟩
 . rw [Nat.zero_add,R.row.cell hj];rfl
 . exact R.row.frozen _
 . have h:=rR N 0 w F R
   exact ⟨h.row.congr fun i hi=>by rw [if_pos (by omega)],fun _=>B_pos⟩
theorem pJ {w:World}{t n m:Nat}(hn:t+1=n) (hm:n+1=m) {po:Option Addr}{cp bp op:Nat}{H:Nat -> Nat}(SP:Sl w po m cp bp op H) {dv:Option Addr}{cd bd od:Nat}{G:Nat -> Nat}(SD:Sl w dv n cd bd od G) (h0:G t ≠ 0) (ht:t<=1000)
 {p:Nat} {Fp:Nat -> Nat} (R:Row w p m Fp) (n1:bp ≠ p) (n2:bd ≠ p) (hlt:V H m<V G n * B) :
 Calls Tryz.prog 260 #[.slice po m cp,.slice dv n cd,.slice (some ⟨p,0,none⟩) m m] w fun e w'=>e=.returned (vU ((V H m / V G n:Nat):Int))/\w.grownBy w' (some p) /\
  ∃ F,Row w' p m F/\V F m=V H m / V G n * V G n:=by
 have hD:0<V G n:=by subst hn;exact Nat.lt_of_lt_of_le (Bp_pos t) (oX h0)
 have gge:V H m / V G n<=gW (H n) (H t) (G t):=by subst hm hn;exact aGz SP.ws h0 hlt
 have glt:=aL7 (hi:=H n) (d:=G t) (SP.ws t)
 have T1:=fun W=>aD0 (H n) (H t) (G t) (SP.ws _) (SP.ws _) (SD.ws _) W
 obtain rfl:=SP.addr (by omega)
 obtain rfl:=SD.addr (by omega)
 have HP:Hid (Sl w (some ⟨bp,op,none⟩) m cp bp op H):=SP
 have HD:Hid (Sl w (some ⟨bd,od,none⟩) n cd bd od G):=SD
 have cp1:=SP.cell n (by omega)
 have cp0:=SP.cell t (by omega)
 have cd0:=SD.cell t (by omega)
 have HG:Hid (V H m / V G n<=gW (H n) (H t) (G t)/\gW (H n) (H t) (G t)<B/\0<V G n):=⟨gge,glt,hD⟩
 clear SP SD gge glt h0 hlt hD
 generalize gW (H n) (H t) (G t)=g0 at *
 have i1:(0:Int)<=(n:Int):=by omega
 have i2:(n:Int)<(m:Int):=by omega
 have i2':n<m:=by omega
 have i3:(n:Int) - 1=(t:Int):=by omega
 have i4:(t:Int)<(m:Int):=by omega
 have i5:(t:Int)<(n:Int):=by omega
 have i6:(0:Int)<=(t:Int):=by omega
 have i7:t<m:=by omega
 have i8:t<n:=by omega
 have i10:IntKind.i64.wrap (t:Int)=(t:Int):=by simp [IntKind.wrap,IntKind.signed,IntKind.bits];omega
 have i9:(1:Int)<=(n:Int):=by omega
 have HNM:Hid (t+1=n/\n+1=m):=⟨hn,hm⟩
 have k1:=HP.out.blk (by omega)
 have k2:=HD.out.blk (by omega)
 clear hn hm
 go_enter Tryz.func260,Tryz.ntmps260
 go_wp2
 go_step3
 go_wp2
 go_region_held3 (fun w'=>w'.cell? ⟨bp,op+n,none⟩=some (vU ((H n:Nat):Int))/\w'.cell? ⟨bp,op+t,none⟩=some (vU ((H t:Nat):Int))/\w'.cell? ⟨bd,od+t,none⟩=some (vU ((G t:Nat):Int))) (simp [*,go_sem])
  (first | (go_at_call 278;refine (T1 _).mono ?_;rintro e wa ⟨rfl,hbd⟩;obtain ⟨hcd,hfd⟩:=dG hbd;simp at hcd hfd))
 have hba:Bl w wa:=(Below.refl _ _).drew.trans hbd
 have SP1:=HP.out.below hba
 have SD1:=HD.out.below hba
 obtain ⟨w2,hcl,R2,hg2⟩:=aDt (R.below hba) (by omega) (c:=m)
 have SP2:=SP1.kept hg2 (fun _=>n1)
 have SD2:=SD1.kept hg2 (fun _=>n2)
 have T2:=nD (g:=p) (o:=0) (zo:=some ⟨p,0,none⟩) (n:=n) (c:=m) R2 SD2 (fun q=>⟨rfl,n2⟩) (by omega) (Nat.le_refl _) g0 HG.out.2.1
 clear cp1 cp0 cd0 hcd hfd
 go_wp2_with fail
 refine T2.mono ?_
 rintro e w3 ⟨v,F3,rfl,hvB,hg3,R3,hfr3,hv3⟩
 have cz:=R3.row.cell (i:=n) i2'
 have fz:=R3.row.frozen n
 have R4:=R3.set n hvB
 have hv4:V (put F3 n v) m=g0 * V G n:=by
  rw [<- HNM.out.2,V_succ,V_put_low (Nat.le_refl _),put_at]
  have e0:(fun i=>F3 (0+i))=F3:=funext fun i=>by rw [Nat.zero_add]
  rw [e0,V_nought,Nat.zero_add] at hv3
  rw [hv3,Nat.mul_comm]
 have hga:w.grownBy wa (some p):=⟨hba.os,hba.tape,hba.output,hba.size,fun k hk _=>hba.block k hk⟩
 have hg4:w.grownBy (w3.setCell ⟨p,n,none⟩ (vU (v:Int))) (some p):=cD (jD (jD hga hg2) hg3) _
 have HR4:Hid (Row (w3.setCell ⟨p,n,none⟩ (vU (v:Int))) p m (put F3 n v)/\V (put F3 n v) m=g0 * V G n/\w.grownBy (w3.setCell ⟨p,n,none⟩ (vU (v:Int))) (some p)):=⟨R4,hv4,hg4⟩
 clear R3 R4 hv3 hv4 hfr3 hg4 hg3 hga T2 SP2 SD2 R2 hg2 SP1 SD1 hbd hba T1
 go_wp2
 go_step3
 go_wp2
 go_loopg [8] g0 (fun gk s wr=>∃ F',s=vU ((gk:Nat):Int)/\Row wr p m F'/\V F' m=gk * V G n/\V H m / V G n<=gk/\gk<B/\w.grownBy wr (some p))
 case atStart=>exact ⟨put F3 n v,rfl,HR4.out.1,HR4.out.2.1,HG.out.1,HG.out.2.1,HR4.out.2.2⟩
 case round =>
  obtain ⟨F',rfl,R',hv,hq,hlt,hgr⟩:=hrel
  obtain ⟨g,rfl⟩:∃ g,g=gk:=⟨gk,rfl⟩
  have HV:Hid (V F' m=g * V G n/\V H m / V G n<=g/\g<B):=⟨hv,hq,hlt⟩
  have HR:Hid (Row wr p m F'/\w.grownBy wr (some p)):=⟨R',hgr⟩
  clear HR4 hv hq hlt R' hgr cz fz
  go_wp2
  go_loopg [8,9] m (fun kk s8 s wr2=>s8=vU ((g:Nat):Int)/\s=vI ((kk:Int) - 1)/\kk<=m/\Row wr2 p m F'/\w.grownBy wr2 (some p)/\∀ j,kk<=j -> j<m -> F' j=H j)
  case atStart=>exact ⟨rfl,by congr 1;have:=HNM.out.2;omega,Nat.le_refl _,HR.out.1,HR.out.2,fun j a b=>absurd a (by omega)⟩
  case round =>
   obtain ⟨rfl,rfl,hk,R',hgr,heq⟩:=hrel
   obtain ⟨k,rfl⟩:∃ k,k=gk:=⟨gk,rfl⟩
   have HE:Hid (∀ j,k<=j -> j<m -> F' j=H j):=heq
   have HR2:Hid (Row wr p m F'/\w.grownBy wr (some p)):=⟨R',hgr⟩
   clear heq HR
   by_cases c1:0<k
   . have cz:=R'.row.cell (i:=k - 1) (by omega)
     have cq:=(HP.out.kept hgr (fun _=>n1)).cell (k - 1) (by omega)
     clear R' hgr
     rcases Nat.lt_trichotomy (F' (k - 1)) (H (k - 1)) with z | z | z
     . have g1:(1:Int)<=(k:Int):=by omega
       have g3:¬ (((H (k - 1):Nat):Int)<=((F' (k - 1):Nat):Int)):=by omega
       have hle:g * V G n<=V H m:=by
        rw [<- HV.out.1]
        exact Nat.le_of_lt (V_lt_at HR2.out.1.ws z (by omega) (fun j a b=>HE.out j (by omega) b))
       have HQ:Hid (g=V H m / V G n):=aE3 hle HV.out.2.1 HG.out.2.2
       clear hle z
       go_wp2
       go_quiet (fail)
       go_wp2
       try rw [Exit.noGoto_ret]
       go_ret
       refine ⟨by rw [<- HQ.out];rfl,dQ HR2.out.2,F',iU HR2.out.1,?_⟩
       rw [HV.out.1,<- HQ.out]
     . have g1:(1:Int)<=(k:Int):=by omega
       have HZ:Hid (F' (k - 1)=H (k - 1)):=z
       have hk63:(k:Int)<=2000:=by have:=HNM.out;omega
       rw [z] at cz
       clear z
       go_wp2
       go_quiet (fail)
       go_wp2
       go_quiet (fail)
       go_wp2
       go_roundg (k - 1)
       case measure=>omega
       case rel =>
        refine ⟨rfl,by go_num,by omega,iU HR2.out.1,dQ HR2.out.2,fun j a b=>?_⟩
        by_cases y:j=k - 1
        . rw [y];exact HZ.out
        . exact HE.out j (by omega) b
     . have g1:(1:Int)<=(k:Int):=by omega
       have g3:((H (k - 1):Nat):Int)<=((F' (k - 1):Nat):Int):=by omega
       have g4:((H (k - 1):Nat):Int)<((F' (k - 1):Nat):Int):=by omega
       have hgt:V H m<g * V G n:=by
        rw [<- HV.out.1]
        exact V_lt_at HP.out.ws z (by omega) (fun j a b=>(HE.out j (by omega) b).symm)
       have hgq:=aLt hgt HG.out.2.2
       have hg1:1<=g:=Nat.lt_of_le_of_lt (Nat.zero_le _) hgq
       have hle:V G n<=V F' m:=by
        rw [HV.out.1]
        have q:=Nat.mul_le_mul_right (V G n) hg1
        rw [Nat.one_mul] at q
        exact q
       have HQ:Hid (V H m / V G n<g):=hgq
       have hg2:(1:Int)<=(g:Int):=by omega
       have hgB:(g:Int)<=18446744073709551615:=by have:=HV.out.2.2;unfold B at this;omega
       have wg:IntKind.u64.wrap ((g:Int) - 1)=((g - 1:Nat):Int):=by rw [IntKind.wrap_u64];omega
       have e0:(fun i=>F' (0+i))=F':=funext fun i=>by rw [Nat.zero_add]
       have hmm:m<=9223372036854775807:=by have:=HNM.out;omega
       have DD:=fun nq=>gY (w:=wr.drewN nq) (g:=p) (o:=0) (n:=m) (c:=m) (iU HR2.out.1) (by omega) (Nat.le_refl _) (by unfold maxLen;omega) (HD.out.kept (dQ HR2.out.2) (fun _=>n2)) (fun _=>n2) (by omega) (by rw [e0];exact hle)
       rw [e0] at DD
       clear hgt hgq hle z e0
       go_wp2
       go_quiet (fail)
       go_wp2
       go_quiet (fail)
       go_wp2_with fail
       refine (DD _).mono ?_
       rintro e w5 ⟨rfl,hg5,F5,R5,_,hv5⟩
       have HR5:Hid (Row w5 p m F5/\w.grownBy w5 (some p)):=⟨R5,jD (dQ HR2.out.2) hg5⟩
       have HV5:Hid (V F5 m+V G n=V F' m):=by
        have e1:(fun i=>F5 (0+i))=F5:=funext fun i=>by rw [Nat.zero_add]
        rw [e1] at hv5
        exact hv5
       clear hv5 R5 hg5
       go_wp2
       go_roundg (g - 1)
       case measure=>omega
       case rel =>
        refine ⟨F5,rfl,HR5.out.1,?_,?_,?_,HR5.out.2⟩
        . have a:=HV5.out
          rw [HV.out.1] at a
          obtain ⟨g',rfl⟩:∃ g',g=g'+1:=⟨g - 1,by omega⟩
          rw [Nat.add_mul,Nat.one_mul] at a
          rw [Nat.add_sub_cancel]
          omega
        . exact Nat.le_sub_one_of_lt HQ.out
        . exact Nat.lt_of_le_of_lt (Nat.sub_le _ _) HV.out.2.2
   . obtain rfl:k=0:=by omega
     have hle:g * V G n<=V H m:=by
      rw [<- HV.out.1]
      exact Nat.le_of_eq (V_congr fun i hi=>HE.out i (Nat.zero_le _) hi)
     have HQ:Hid (g=V H m / V G n):=aE3 hle HV.out.2.1 HG.out.2.2
     clear hle c1 R' hgr
     go_wp2
     go_quiet (fail)
     go_wp2
     try rw [Exit.noGoto_ret]
     go_ret
     refine ⟨by rw [<- HQ.out];rfl,dQ HR2.out.2,F',iU HR2.out.1,?_⟩
     rw [HV.out.1,<- HQ.out]
theorem aGN {x:Nat}(h0:x ≠ 0) (hx:x<B):∃ s:Nat,(64:Int) - aM (x:Int)=(s:Int)/\s<64/\x<2 ^ (64 - s):=by
 unfold B at hx
 obtain ⟨n,e,hn,h1,h2⟩:=aW (x:Int) (by omega) (by omega)
 refine ⟨63 - n,by omega,by omega,?_⟩
 rw [show 64 - (63 - n)=n+1 by omega]
 rw [aL] at h2
 omega
theorem aIt {G Fd:Nat -> Nat}(hG:Ws G) (hF:Ws Fd) {m s:Nat}(hm:0<m) (hs:s<64) (h0:G (m - 1) ≠ 0) (hx:G (m - 1)<2 ^ (64 - s)) (hv:V Fd (m+1)=V G m * 2 ^ s):tl Fd (m+1)=m:=by
 have t:=dR Fd (m+1)
 have v:=fW Fd (m+1)
 obtain ⟨k,rfl⟩:∃ k,m=k+1:=⟨m - 1,by omega⟩
 rw [Nat.add_sub_cancel] at h0 hx
 have p:0<2 ^ s:=Nat.pow_pos (by omega)
 have a:V G (k+1)<2 ^ (64 - s) * B ^ k:=by
  have q:=V_lt hG k
  have r:(G k+1) * B ^ k<=2 ^ (64 - s) * B ^ k:=Nat.mul_le_mul_right _ hx
  rw [Nat.add_mul,Nat.one_mul] at r
  rw [V_succ];omega
 have b:V G (k+1) * 2 ^ s<B ^ (k+1):=by
  have q:=Nat.mul_lt_mul_of_pos_right a p
  rw [Nat.mul_right_comm,gV (Nat.le_of_lt hs),Nat.mul_comm B,<- Nat.pow_succ] at q
  exact q
 have c:B ^ k<=V G (k+1) * 2 ^ s:=Nat.le_trans (oX h0) (Nat.le_mul_of_pos_right _ p)
 rw [hv] at v
 have d:=len_le t (k:=k+1) (by rw [v];exact b)
 rcases Nat.lt_or_ge (tl Fd (k+1+1)) (k+1) with y | y
 . exfalso
   have e:=V_lt hF (tl Fd (k+1+1))
   have g:B ^ tl Fd (k+1+1)<=B ^ k:=Nat.pow_le_pow_right B_pos (by omega)
   omega
 . omega
theorem Row.setOther {w:World}{g N:Nat}{F:Nat -> Nat}(R:Row w g N F) {a:Addr}(h:g ≠ a.block) (v:Value):Row (w.setCell a v) g N F:=⟨R.row.setOther h v,R.ws⟩
theorem tF        {f : Nat → Nat} {k x : Nat} (h : f k = 0) : ∀ {n : Nat}, k < n → V (put f k x) n = V f n + x * B ^ k
  | 0, hk => absurd hk (by omega)
  | n + 1, hk => by
    by_cases c : k = n
    · subst c; rw [V_succ, V_succ, V_put_low (Nat.le_refl _), put_at, h, Nat.zero_mul, Nat.add_zero]
    · have i := tF        (x := x) h (n := n) (by omega)
      rw [V_succ, V_succ, i, put_ne (by omega)]; omega
theorem aIu {r a q D p:Nat}:r+(a+q * p) * D=r+q * p * D+a * D:=by grind
theorem aGk {f G:Nat -> Nat}(hf:Ws f) {n m s L:Nat}(hm:0<m) (h0:G (m - 1) ≠ 0) (hL:L+m=n+1 \/ (n+1<m/\L=0)):V f n * 2 ^ s<V G m * 2 ^ s * B ^ L:=by
 obtain ⟨k,rfl⟩:∃ k,m=k+1:=⟨m - 1,by omega⟩
 rw [Nat.add_sub_cancel] at h0
 have a:=oX h0
 have b:=V_lt hf n
 have p:0<2 ^ s:=Nat.pow_pos (by omega)
 rw [Nat.mul_right_comm]
 refine Nat.mul_lt_mul_of_pos_right ?_ p
 rcases hL with hL | ⟨hL,rfl⟩
 . have c:=Nat.mul_le_mul_right (B ^ L) a
   rw [<- Nat.pow_add,show k+L=n by omega] at c
   omega
 . rw [Nat.pow_zero,Nat.mul_one]
   have c:B ^ n<=B ^ k:=Nat.pow_le_pow_right B_pos (by omega)
   omega
theorem aB8 {Fr:Nat -> Nat}{N k m D:Nat}(hD:D<B ^ m) (hk:k+m+1<=N) (h:V Fr N<D * B ^ (k+1)) :
 V Fr N=V Fr k+V (fun i=>Fr (k+i)) (m+1) * B ^ k/\V (fun i=>Fr (k+i)) (m+1)<D * B/\V (fun i=>Fr (k+i)) (N - k)=V (fun i=>Fr (k+i)) (m+1):=by
 have e1:=V_split Fr k (N - k)
 rw [show k+(N - k)=N by omega] at e1
 have e2:=V_split (fun i=>Fr (k+i)) (m+1) (N - k - (m+1))
 rw [show m+1+(N - k - (m+1))=N - k by omega] at e2
 have a:V (fun i=>Fr (k+i)) (N - k)<D * B:=by
  have x:V (fun i=>Fr (k+i)) (N - k) * B ^ k<D * B * B ^ k:=by
   rw [Nat.pow_succ,Nat.mul_comm (B ^ k),<- Nat.mul_assoc] at h
   omega
  exact Nat.lt_of_mul_lt_mul_right x
 have b:D * B<B ^ (m+1):=by rw [Nat.pow_succ];exact Nat.mul_lt_mul_of_pos_right hD B_pos
 have z:V (fun i=>Fr (k+(m+1+i))) (N - k - (m+1))=0:=by
  rcases Nat.eq_zero_or_pos (V (fun i=>Fr (k+(m+1+i))) (N - k - (m+1))) with q | q
  . exact q
  . exfalso
    have r:=Nat.mul_le_mul_right (B ^ (m+1)) q
    rw [Nat.succ_mul,Nat.zero_mul,Nat.zero_add] at r
    omega
 rw [z,Nat.zero_mul,Nat.add_zero] at e2
 rw [e2] at a e1
 exact ⟨e1,a,e2⟩
theorem aIs {v q D P r p T:Nat}(e:T=v+P * p) (h:r+q * D=P):v+r * p+q * p * D=T:=by
 rw [e,<- h];grind
theorem aDB {Fr F':Nat -> Nat}(hF:Ws Fr) {N k m D q:Nat}(hD:0<D) (hk:k+m+1<=N) (h1:V Fr N=V Fr k+V (fun i=>Fr (k+i)) (m+1) * B ^ k) (h2:V (fun i=>Fr (k+i)) (N - k)=V (fun i=>Fr (k+i)) (m+1))
 (hq:q=V (fun i=>Fr (k+i)) (m+1) / D) (h3:V (fun i=>F' (k+i)) (m+1)+q * D=V (fun i=>Fr (k+i)) (m+1)) (h4:∀ i,i<k \/ k+(m+1)<=i -> F' i=Fr i) :
 V F' N+q * B ^ k * D=V Fr N/\V F' N<D * B ^ k:=by
 have a:=wU (f:=fun i=>F' (k+i)) (g:=fun i=>Fr (k+i)) (k:=m+1) (n:=N - k) (a:=q * D) (b:=0) (by omega) h3 (fun i x y=>h4 (k+i) (Or.inr (by omega)))
 rw [Nat.add_zero,h2] at a
 have e1:=V_split F' k (N - k)
 rw [show k+(N - k)=N by omega,V_congr (f:=F') (g:=Fr) (n:=k) (fun i hi=>h4 i (Or.inl hi))] at e1
 have r:V (fun i=>F' (k+i)) (N - k)=V (fun i=>Fr (k+i)) (m+1) % D:=by
  have x:=Nat.div_add_mod (V (fun i=>Fr (k+i)) (m+1)) D
  rw [<- hq,Nat.mul_comm] at x
  omega
 have s:=Nat.mod_lt (V (fun i=>Fr (k+i)) (m+1)) hD
 rw [<- r] at s
 constructor
 . rw [e1];exact aIs h1 a
 . have l:=V_lt hF k
   have y:=Nat.mul_le_mul_right (B ^ k) s
   rw [Nat.succ_mul] at y
   rw [e1]
   omega
theorem aBk {A D Q r a b s:Nat}(hA:A=a * 2 ^ s) (hD:D=b * 2 ^ s) (h:r+Q * D=A) (hr:r<D):Q=a / b/\r / 2 ^ s=a % b:=by
 have p:0<2 ^ s:=Nat.pow_pos (by omega)
 have hD0:0<D:=by omega
 have x:=(Nat.div_mod_unique hD0 (a:=A) (c:=r) (d:=Q)).mpr ⟨by rw [Nat.mul_comm D Q];exact h,hr⟩
 rw [hA,hD,Nat.mul_div_mul_right _ _ p,Nat.mul_mod_mul_right] at x
 exact ⟨x.1.symm,by rw [<- x.2,Nat.mul_div_cancel _ p]⟩
theorem jW {w:World}{ao:Option Addr}{c s:Nat}(hs:s<64) :
 Cs 231 #[.slice ao 0 c,vI (s:Int)] w (.tuple #[.slice none 0 0,.bool false]):=by
 have e1:(s:Int) / 64=0:=by omega
 go_enter Tryz.func231,Tryz.ntmps231
 go_wp2
 refine bodyPost_ret (v:=.tuple #[.slice none 0 0,.bool false]) (by simp [results,Tryz.results231,go_sem]) rfl ⟨rfl,rfl⟩
theorem aB9        {w : World} (hT : Tab w) {ao : Option Addr} {n ca ba oa : Nat} {f : Nat → Nat} (S : Sl w ao n ca ba oa f) (hn : n ≤ 128) {bo : Option Addr} {m cb bb ob : Nat} {G : Nat → Nat} (S' : Sl w bo m cb bb ob G) (hm : m ≤ 128) (hm0 : 0 < m) (h0 : G (m - 1) ≠ 0) :
    Calls Tryz.prog 230 #[.slice ao n ca, .slice bo m cb] w fun e w' => ∃ v1 v2, e = .returned (.tuple #[v1, v2]) ∧ NatV w' v1 (V f n / V G m) ∧ NatV w' v2 (V f n % V G m) ∧ Below w.heap.size w w' := by
  obtain ⟨s, es, hs, hx⟩ := aGN      h0 (S'.ws (m - 1))
  obtain rfl := S'.addr hm0
  have cb0 := S'.cell (m - 1) (by omega)
  have L1 := gC         ((G (m - 1) : Nat) : Int) ⟨by omega, by have := S'.ws (m - 1); unfold B at this; omega⟩ w
  rw [es] at L1
  have U1 := jE          S' (by omega) s 0 s (by omega) hs (by omega)
  rw [Nat.zero_add] at U1
  have HS : Hid (Sl w ao n ca ba oa f) := S
  have HS' : Hid (Sl w (some ⟨bb, ob, none⟩) m cb bb ob G) := S'
  clear S S' es
  go_enter Tryz.func230, Tryz.ntmps230
  go_wp2_with fail
  refine L1.mono ?_
  rintro e w0 ⟨rfl, rfl⟩
  go_wp2_with fail
  refine U1.mono ?_
  rintro e w1 ⟨rfl, hb1, Fd, Rd, hvd⟩
  have hld := aIt     HS'.out.ws Rd.ws hm0 hs h0 hx hvd
  have T1 := trim_any (aG      Rd (by unfold maxLen; omega))
  rw [hld] at T1
  have U2 := jE          (HS.out.below hb1) (by omega) s 0 s (by omega) hs (by omega)
  rw [Nat.zero_add] at U2
  go_wp2_with fail
  refine T1.mono ?_
  rintro e w1' ⟨rfl, rfl⟩
  go_wp2_with fail
  refine U2.mono ?_
  rintro e w2 ⟨rfl, hb2, Fr, Rr, hvr⟩
  have Rd2 := Rd.below hb2
  have hB2 : Below w0.heap.size w0 w2 := hb1.trans (hb2.mono hb1.size)
  have hgd : w0.heap.size < w1'.heap.size := Rd.row.lt
  have hg1 := Rd2.row.lt
  have hsz1 := hb1.size
  have hg2 := Rr.row.lt
  clear Rd T1 U1 U2 L1 cb0
  obtain ⟨L, hL⟩ : ∃ L, L + m = n + 1 ∨ (n + 1 < m ∧ L = 0) := by
    rcases Nat.lt_or_ge (n + 1) m with q | q
    · exact ⟨0, Or.inr ⟨q, rfl⟩⟩
    · exact ⟨n + 1 - m, Or.inl (by omega)⟩
  have hLs : L ≤ 129 := by omega
  have hDlt : V Fd (m + 1) < B ^ m := by
    have q := fW   Fd (m + 1)
    rw [hld] at q
    rw [← q]; exact V_lt Rd2.ws m
  have hini := aGk      (s := s) HS.out.ws hm0 h0 hL
  rw [← hvd, ← hvr] at hini
  have hDpos : 0 < V Fd (m + 1) := by
    rcases Nat.eq_zero_or_pos (V Fd (m + 1)) with q | q
    · rw [q, Nat.zero_mul] at hini; omega
    · exact q
  have hdt : Fd (m - 1) ≠ 0 := by
    have q := dR     Fd (m + 1)
    rw [hld] at q
    exact q.resolve_left (by omega)
  have HI : Hid (V Fr (n + 1) < V Fd (m + 1) * B ^ L ∧ V Fd (m + 1) < B ^ m ∧ 0 < V Fd (m + 1) ∧ Fd (m - 1) ≠ 0 ∧ V Fd (m + 1) = V G m * 2 ^ s ∧ V Fr (n + 1) = V f n * 2 ^ s ∧ tl Fd (m + 1) = m) := ⟨hini, hDlt, hDpos, hdt, hvd, hvr, hld⟩
  clear hini hDlt hDpos hdt hvd hvr hld h0 hx
  have hmp := run_make_row' (P := Tryz.prog) 203 31 (.int .u64 0) 8 bS      cH       rfl .i64 .i64 (m + 1) (by omega) (by omega)
  simp only [Int.natCast_add, Int.natCast_one] at hmp
  have hmq0 := run_make_row' (P := Tryz.prog) 203 31 (.int .u64 0) 8 bS      cH       rfl .i64 .i64 L (by omega) (by omega)
  have HLL : Hid (L + m = n + 1 ∨ (n + 1 < m ∧ L = 0)) := hL
  clear hL
  rcases Nat.lt_or_ge m (n + 1) with hL | hL
  · have hmq : ∀ W : World, (Instr.makeSlice 203 (.int .i64 ((n : Int) + 1 - (m : Int))) (.int .i64 ((n : Int) + 1 - (m : Int)))).run Tryz.prog W = .ok (.slice (some ⟨W.heap.size, 0, none⟩) L L) (W.alloc (.cells (madeCells #[.int .u64 0] L) 31)) := by
      intro W
      have q := hmq0 W
      rw [show (L : Int) = (n : Int) + 1 - (m : Int) by have := HLL.out; omega] at q
      exact q
    have hpos : (0 : Int) < (n : Int) + 1 - (m : Int) := by omega
    clear hmq0
    have eD : V Fd (m + 1) = V Fd m := by
      have q := fW   Fd (m + 1)
      rw [HI.out.2.2.2.2.2.2] at q
      exact q.symm
    have HE : Hid (V Fd (m + 1) = V Fd m) := eD
    clear eD
    go_wp2
    clear hmq hmp
    go_loopw [11] (fun i wr => ∃ (k : Nat) (Fr' Fq Fp : Nat → Nat), i = .int .i64 ((k : Int) - 1) ∧ k ≤ L ∧ Row wr w0.heap.size (m + 1) Fd ∧ Row wr w1'.heap.size (n + 1) Fr' ∧ Row wr w2.heap.size L Fq ∧ Row wr (w2.heap.size + 1) (m + 1) Fp ∧ Below w0.heap.size w0 wr ∧ (∀ j, j < k → Fq j = 0) ∧ V Fr' (n + 1) + V Fq L * V Fd m = V f n * 2 ^ s ∧ V Fr' (n + 1) < V Fd m * B ^ k) (fun i _ => (intOf i + 1).toNat)
    case atStart =>
      refine ⟨L, Fr, fun _ => 0, fun _ => 0, rfl, Nat.le_refl _, (Rd2.alloc _).alloc _, (Rr.alloc _).alloc _, (made_row w2 L).alloc _, ?_, ((hB2.alloc (by omega) _).alloc (by simp; omega) _), fun _ _ => rfl, ?_, ?_⟩
      · have q := made_row (w2.alloc (.cells (madeCells #[.int .u64 0] L) 31)) (m + 1)
        rw [World.size_alloc] at q
        exact q
      · rw [V_nought, Nat.zero_mul, Nat.add_zero]; exact HI.out.2.2.2.2.2.1
      · rw [← HE.out]; exact HI.out.1
    case round =>
      obtain ⟨k, Fr', Fq, Fp, rfl, hk, Rd3, Rr3, Rq3, Rp3, hbl, hz, hsum, hlt⟩ := hrel
      have HR : Hid (Row wr w0.heap.size (m + 1) Fd ∧ Row wr w1'.heap.size (n + 1) Fr' ∧ Row wr w2.heap.size L Fq ∧ Row wr (w2.heap.size + 1) (m + 1) Fp ∧ Below w0.heap.size w0 wr) := ⟨Rd3, Rr3, Rq3, Rp3, hbl⟩
      have HV : Hid ((∀ j, j < k → Fq j = 0) ∧ V Fr' (n + 1) + V Fq L * V Fd m = V f n * 2 ^ s ∧ V Fr' (n + 1) < V Fd m * B ^ k) := ⟨hz, hsum, hlt⟩
      clear hz hsum hlt
      by_cases c1 : 0 < k
      · obtain ⟨i, rfl⟩ : ∃ i, k = i + 1 := ⟨k - 1, by omega⟩
        have hiL : i < L := by omega
        have hiN : i + m + 1 ≤ n + 1 := by have := HLL.out; omega
        have hDm : V Fd m < B ^ m := by rw [← HE.out]; exact HI.out.2.1
        have hDp : 0 < V Fd m := by rw [← HE.out]; exact HI.out.2.2.1
        obtain ⟨x1, x2, x3⟩ := aB8        (m := m) hDm hiN HV.out.2.2
        have SP := Rr3.sl (o := i) (n := m + 1) (c := n + 1 - i) (by omega) (by omega) (by unfold maxLen; omega)
        have SD : Sl wr (some ⟨w0.heap.size, 0, none⟩) m m w0.heap.size 0 Fd := by
          have q := Rd3.sl (o := 0) (n := m) (c := m) (by omega) (Nat.le_refl _) (by unfold maxLen; omega)
          rw [show (fun i => Fd (0 + i)) = Fd from funext fun i => by rw [Nat.zero_add]] at q
          exact q
        have Q1 := pJ               (t := m - 1) (n := m) (m := m + 1) (by omega) rfl SP SD HI.out.2.2.2.1 (by omega) Rp3 (by omega) (by omega) x2
        have HX : Hid (V Fr' (n + 1) = V Fr' i + V (fun j => Fr' (i + j)) (m + 1) * B ^ i ∧ V (fun j => Fr' (i + j)) (n + 1 - i) = V (fun j => Fr' (i + j)) (m + 1) ∧ 0 < V Fd m) := ⟨x1, x3, hDp⟩
        have qlt : V (fun j => Fr' (i + j)) (m + 1) / V Fd m < B := by rw [Nat.div_lt_iff_lt_mul hDp, Nat.mul_comm]; exact x2
        have HQL : Hid (V (fun j => Fr' (i + j)) (m + 1) / V Fd m < B) := qlt
        clear x1 x2 x3 SP SD hDm hDp Rd3 Rr3 Rq3 Rp3 hbl qlt
        obtain ⟨q, hq⟩ : ∃ q, V (fun j => Fr' (i + j)) (m + 1) / V Fd m = q := ⟨_, rfl⟩
        have HQ : Hid (q = V (fun j => Fr' (i + j)) (m + 1) / V Fd m) := hq.symm
        rw [hq] at Q1
        have HQB : Hid (q < B) := by rw [← hq]; exact HQL.out
        clear hq HQL
        rw [show ((i + 1 : Nat) : Int) - 1 = (i : Int) by omega]
        go_wp2_with fail
        refine Q1.mono ?_
        rintro e w5 ⟨rfl, hg5, F5, R5, hv5⟩
        have Rq5 := HR.out.2.2.1.kept hg5 (by omega)
        have cz := Rq5.row.cell hiL
        have fz := Rq5.row.frozen i
        have Rr6 := (HR.out.2.1.kept hg5 (by omega)).setOther (a := ⟨w2.heap.size, i, none⟩) (Nat.ne_of_lt hg2) (.int .u64 (q : Int))
        have Rp6 := R5.setOther (a := ⟨w2.heap.size, i, none⟩) (Nat.succ_ne_self _) (.int .u64 (q : Int))
        have Rd6 := (HR.out.1.kept hg5 (by omega)).setOther (a := ⟨w2.heap.size, i, none⟩) (by show w0.heap.size ≠ w2.heap.size; omega) (.int .u64 (q : Int))
        have Rq6 := Rq5.set i HQB.out
        have hqle : V F5 (m + 1) ≤ V (fun j => Fr' (i + j)) (m + 1) := by rw [hv5, HQ.out]; exact Nat.div_mul_le_self _ _
        have DD := gY           (o := i) (n := m + 1) (c := n + 1 - i) Rr6 (by omega) (by omega) (by unfold maxLen; omega) (aG      Rp6 (by unfold maxLen; omega)) (fun _ => by omega) (Nat.le_refl _) hqle
        have hb6 : Below w0.heap.size w0 (w5.setCell ⟨w2.heap.size, i, none⟩ (.int .u64 (q : Int))) := (aR          HR.out.2.2.2.2 hg5 (by omega)).setCell (by show w0.heap.size ≤ w2.heap.size; omega) _
        have H6 : Hid (Row (w5.setCell ⟨w2.heap.size, i, none⟩ (.int .u64 (q : Int))) w0.heap.size (m + 1) Fd ∧ Row (w5.setCell ⟨w2.heap.size, i, none⟩ (.int .u64 (q : Int))) w2.heap.size L (put Fq i q) ∧ Row (w5.setCell ⟨w2.heap.size, i, none⟩ (.int .u64 (q : Int))) (w2.heap.size + 1) (m + 1) F5 ∧ Below w0.heap.size w0 (w5.setCell ⟨w2.heap.size, i, none⟩ (.int .u64 (q : Int))) ∧ V F5 (m + 1) = q * V Fd m) := ⟨Rd6, Rq6, Rp6, hb6, hv5⟩
        clear Rd6 Rq6 Rp6 hb6 Rr6 Rq5 hqle hv5 R5 hg5 Q1
        go_wp2_with fail
        refine DD.mono ?_
        rintro e w7 ⟨rfl, hg7, F7, R7, hf7, hv7⟩
        have H7 : Hid (Row w7 w0.heap.size (m + 1) Fd ∧ Row w7 w1'.heap.size (n + 1) F7 ∧ Row w7 w2.heap.size L (put Fq i q) ∧ Row w7 (w2.heap.size + 1) (m + 1) F5 ∧ Below w0.heap.size w0 w7) := ⟨H6.out.1.kept hg7 (by omega), R7, H6.out.2.1.kept hg7 (by omega), H6.out.2.2.1.kept hg7 (by omega), aR          H6.out.2.2.2.1 hg7 (by omega)⟩
        rw [H6.out.2.2.2.2] at hv7
        have da := aDB       (HR.out.2.1.ws) HX.out.2.2 (by omega) HX.out.1 HX.out.2.1 HQ.out hv7 hf7
        have HDA : Hid (V F7 (n + 1) + q * B ^ i * V Fd m = V Fr' (n + 1) ∧ V F7 (n + 1) < V Fd m * B ^ i) := da
        clear da hv7 hf7 R7 hg7 DD cz fz
        go_wp2
        go_roundw
        case rel =>
          refine ⟨i, F7, put Fq i q, F5, by go_num, by omega, H7.out.1, H7.out.2.1, H7.out.2.2.1, H7.out.2.2.2.1, H7.out.2.2.2.2, fun j hj => ?_, ?_, HDA.out.2⟩
          · rw [put_ne (by omega)]; exact HV.out.1 j (by omega)
          · have e1 : V (put Fq i q) L = V Fq L + q * B ^ i := tF        (HV.out.1 i (by omega)) hiL
            rw [e1, ← HV.out.2.1, ← HDA.out.1]
            exact aIu
        case measure => first | (simp [intOf]; done) | (simp [intOf]; omega)
      · obtain rfl : k = 0 := by omega
        clear Rd3 Rr3 Rq3 Rp3 hbl c1
        have hlt := HV.out.2.2
        rw [Nat.pow_zero, Nat.mul_one] at hlt
        obtain ⟨y1, y2⟩ := aBk     (Q := V Fq L) (r := V Fr' (n + 1)) (a := V f n) (b := V G m) (s := s) rfl (by rw [← HE.out]; exact HI.out.2.2.2.2.1) HV.out.2.1 hlt
        have hX1 : V f n / V G m < B ^ 128 := Nat.lt_of_le_of_lt (Nat.div_le_self _ _) (Nat.lt_of_lt_of_le (V_lt HS.out.ws n) (Nat.pow_le_pow_right B_pos hn))
        have hX2 : V f n % V G m < B ^ 128 := Nat.lt_of_le_of_lt (Nat.mod_le _ _) (Nat.lt_of_lt_of_le (V_lt HS.out.ws n) (Nat.pow_le_pow_right B_pos hn))
        obtain ⟨nq, hlq⟩ := bG      HR.out.2.2.1 (by unfold maxLen; omega) y1 hX1
        have T3 := trim_any (aG      HR.out.2.1 (by unfold maxLen; omega))
        have tv := fW   Fr' (n + 1)
        have tle := gG    Fr' (n + 1)
        have hbw := HR.out.2.2.2.2
        clear hlt hX1
        go_wp2_with fail
        refine T3.mono ?_
        rintro e w8 ⟨rfl, rfl⟩
        by_cases hz0 : tl Fr' (n + 1) = 0
        · have hv0 : V Fr' (n + 1) = 0 := by rw [← tv, hz0]; rfl
          rw [hv0, Nat.zero_div] at y2
          rw [hz0]
          have SN := jW             (w := w8) (ao := some ⟨w1'.heap.size, 0, none⟩) (c := 0) hs
          have TQ := trim_any (aG      HR.out.2.2.1 (by unfold maxLen; omega))
          have TN := trim_any (w := w8) (ao := none) (n := 0) (c := 0) (b := 0) (o := 0) (f := fun _ => 0) ⟨Nat.le_refl _, Nat.zero_le _, fun h => absurd h (by omega), fun h => absurd h (by omega), fun i h => absurd h (by omega), fun _ => B_pos⟩
          have nz : NatV w8 (.slice none 0 0) (V f n % V G m) := ⟨none, 0, 0, 0, 0, fun _ => 0, rfl, ⟨Nat.le_refl _, Nat.zero_le _, fun h => absurd h (by omega), fun h => absurd h (by omega), fun i h => absurd h (by omega), fun _ => B_pos⟩, Or.inl rfl, y2, by omega⟩
          rw [show tl (fun _ => 0) 0 = 0 from rfl] at TN
          have HF : Hid (NatV w8 (.slice (some ⟨w2.heap.size, 0, none⟩) (tl Fq L) (tl Fq L)) (V f n / V G m) ∧ NatV w8 (.slice none 0 0) (V f n % V G m) ∧ Below w0.heap.size w0 w8) := ⟨nq, nz, hbw⟩
          clear nq nz y1 y2 hX2 hbw tv hv0 T3
          generalize tl Fq L = tq at *
          go_wp2_with (first
            | (go_at_call 231; refine SN.mono ?_; rintro e w9 ⟨rfl, rfl⟩)
            | (go_at_call_of 227 (Value.slice (none : Option Addr) 0 0); refine TN.mono ?_; rintro e wA ⟨rfl, rfl⟩)
            | (go_at_call 227; refine TQ.mono ?_; rintro e wB ⟨rfl, rfl⟩))
          refine bodyPost_ret (v := .tuple #[.slice (some ⟨w2.heap.size, 0, none⟩) tq tq, .slice none 0 0]) (by simp [results, Tryz.results230, go_sem]) rfl ⟨_, _, rfl, HF.out.1, HF.out.2.1, HF.out.2.2⟩
        · have SF : Sl w8 (some ⟨w1'.heap.size, 0, none⟩) (tl Fr' (n + 1)) (tl Fr' (n + 1)) w1'.heap.size 0 Fr' := by
            have q := HR.out.2.1.sl (o := 0) (n := tl Fr' (n + 1)) (c := tl Fr' (n + 1)) (by omega) (Nat.le_refl _) (by unfold maxLen; omega)
            rw [show (fun i => Fr' (0 + i)) = Fr' from funext fun i => by rw [Nat.zero_add]] at q
            exact q
          have hne : V Fr' (tl Fr' (n + 1)) ≠ 0 := by
            have q := Top_ge (dR     Fr' (n + 1)) (by omega)
            have := Bp_pos (tl Fr' (n + 1) - 1)
            omega
          have SN := fV            (hT.next hbw) SF (by omega) s 0 s (by omega) hs (by omega) hne
          rw [tv, Nat.sub_zero, y2] at SN
          have TQ := trim_any (aG      HR.out.2.2.1 (by unfold maxLen; omega))
          have HF : Hid (NatV w8 (.slice (some ⟨w2.heap.size, 0, none⟩) (tl Fq L) (tl Fq L)) (V f n / V G m) ∧ Row w8 w2.heap.size L Fq ∧ Below w0.heap.size w0 w8) := ⟨nq, HR.out.2.2.1, hbw⟩
          have HM : Hid (V f n % V G m < B ^ 128) := hX2
          have hln : tl Fr' (n + 1) ≤ 129 := by omega
          clear nq y1 y2 hX2 hbw tv SF hne tle T3
          generalize tl Fr' (n + 1) = tr at *
          generalize hb0 : decide (V Fr' (n + 1) % 2 ^ s ≠ 0) = bb0 at *
          clear hb0
          go_wp2_with fail
          refine SN.mono ?_
          rintro e w9 ⟨rfl, hb9, F9, R9, hv9⟩
          have TQ9 := trim_any (aG      (HF.out.2.1.below hb9) (by unfold maxLen; omega))
          have TR9 := trim_any (aG      R9 (by unfold maxLen; omega))
          obtain ⟨nr, hlr⟩ := bG      R9 (by unfold maxLen; omega) hv9 HM.out
          have HG : Hid (NatV w9 (.slice (some ⟨w2.heap.size, 0, none⟩) (tl Fq L) (tl Fq L)) (V f n / V G m) ∧ NatV w9 (.slice (some ⟨w8.heap.size, 0, none⟩) (tl F9 tr) (tl F9 tr)) (V f n % V G m) ∧ Below w0.heap.size w0 w9) := ⟨HF.out.1.below hb9, nr, HF.out.2.2.trans (hb9.mono HF.out.2.2.size)⟩
          clear TQ SN hv9 R9 nr hlr hlq
          generalize tl Fq L = tq at *
          generalize tl F9 tr = tr9 at *
          go_wp2_with fail
          refine TQ9.mono ?_
          rintro e wA ⟨rfl, rfl⟩
          go_wp2_with fail
          refine TR9.mono ?_
          rintro e wB ⟨rfl, rfl⟩
          go_wp2
          refine bodyPost_ret (v := .tuple #[.slice (some ⟨w2.heap.size, 0, none⟩) tq tq, .slice (some ⟨w8.heap.size, 0, none⟩) tr9 tr9]) (by simp [results, Tryz.results230, go_sem]) rfl ⟨_, _, rfl, HG.out.1, HG.out.2.1, HG.out.2.2⟩
  · have hmq : ∀ W : World, (Instr.makeSlice 203 (.int .i64 0) (.int .i64 0)).run Tryz.prog W = .ok (.slice (some ⟨W.heap.size, 0, none⟩) L L) (W.alloc (.cells (madeCells #[.int .u64 0] L) 31)) := by
      intro W
      have q := hmq0 W
      rw [show (L : Int) = 0 by have := HLL.out; omega] at q
      exact q
    have hpos : (n : Int) + 1 - (m : Int) ≤ 0 := by omega
    clear hmq0
    have eD : V Fd (m + 1) = V Fd m := by
      have q := fW   Fd (m + 1)
      rw [HI.out.2.2.2.2.2.2] at q
      exact q.symm
    have HE : Hid (V Fd (m + 1) = V Fd m) := eD
    clear eD
    go_wp2
    clear hmq hmp
    go_loopw [11] (fun i wr => ∃ (k : Nat) (Fr' Fq Fp : Nat → Nat), i = .int .i64 ((k : Int) - 1) ∧ k ≤ L ∧ Row wr w0.heap.size (m + 1) Fd ∧ Row wr w1'.heap.size (n + 1) Fr' ∧ Row wr w2.heap.size L Fq ∧ Row wr (w2.heap.size + 1) (m + 1) Fp ∧ Below w0.heap.size w0 wr ∧ (∀ j, j < k → Fq j = 0) ∧ V Fr' (n + 1) + V Fq L * V Fd m = V f n * 2 ^ s ∧ V Fr' (n + 1) < V Fd m * B ^ k) (fun i _ => (intOf i + 1).toNat)
    case atStart =>
      refine ⟨L, Fr, fun _ => 0, fun _ => 0, rfl, Nat.le_refl _, (Rd2.alloc _).alloc _, (Rr.alloc _).alloc _, (made_row w2 L).alloc _, ?_, ((hB2.alloc (by omega) _).alloc (by simp; omega) _), fun _ _ => rfl, ?_, ?_⟩
      · have q := made_row (w2.alloc (.cells (madeCells #[.int .u64 0] L) 31)) (m + 1)
        rw [World.size_alloc] at q
        exact q
      · rw [V_nought, Nat.zero_mul, Nat.add_zero]; exact HI.out.2.2.2.2.2.1
      · rw [← HE.out]; exact HI.out.1
    case round =>
      obtain ⟨k, Fr', Fq, Fp, rfl, hk, Rd3, Rr3, Rq3, Rp3, hbl, hz, hsum, hlt⟩ := hrel
      have HR : Hid (Row wr w0.heap.size (m + 1) Fd ∧ Row wr w1'.heap.size (n + 1) Fr' ∧ Row wr w2.heap.size L Fq ∧ Row wr (w2.heap.size + 1) (m + 1) Fp ∧ Below w0.heap.size w0 wr) := ⟨Rd3, Rr3, Rq3, Rp3, hbl⟩
      have HV : Hid ((∀ j, j < k → Fq j = 0) ∧ V Fr' (n + 1) + V Fq L * V Fd m = V f n * 2 ^ s ∧ V Fr' (n + 1) < V Fd m * B ^ k) := ⟨hz, hsum, hlt⟩
      clear hz hsum hlt
      by_cases c1 : 0 < k
      · exfalso
        have := HLL.out
        omega
      · obtain rfl : k = 0 := by omega
        clear Rd3 Rr3 Rq3 Rp3 hbl c1
        have hlt := HV.out.2.2
        rw [Nat.pow_zero, Nat.mul_one] at hlt
        obtain ⟨y1, y2⟩ := aBk     (Q := V Fq L) (r := V Fr' (n + 1)) (a := V f n) (b := V G m) (s := s) rfl (by rw [← HE.out]; exact HI.out.2.2.2.2.1) HV.out.2.1 hlt
        have hX1 : V f n / V G m < B ^ 128 := Nat.lt_of_le_of_lt (Nat.div_le_self _ _) (Nat.lt_of_lt_of_le (V_lt HS.out.ws n) (Nat.pow_le_pow_right B_pos hn))
        have hX2 : V f n % V G m < B ^ 128 := Nat.lt_of_le_of_lt (Nat.mod_le _ _) (Nat.lt_of_lt_of_le (V_lt HS.out.ws n) (Nat.pow_le_pow_right B_pos hn))
        obtain ⟨nq, hlq⟩ := bG      HR.out.2.2.1 (by unfold maxLen; omega) y1 hX1
        have T3 := trim_any (aG      HR.out.2.1 (by unfold maxLen; omega))
        have tv := fW   Fr' (n + 1)
        have tle := gG    Fr' (n + 1)
        have hbw := HR.out.2.2.2.2
        clear hlt hX1
        go_wp2_with fail
        refine T3.mono ?_
        rintro e w8 ⟨rfl, rfl⟩
        by_cases hz0 : tl Fr' (n + 1) = 0
        · have hv0 : V Fr' (n + 1) = 0 := by rw [← tv, hz0]; rfl
          rw [hv0, Nat.zero_div] at y2
          rw [hz0]
          have SN := jW             (w := w8) (ao := some ⟨w1'.heap.size, 0, none⟩) (c := 0) hs
          have TQ := trim_any (aG      HR.out.2.2.1 (by unfold maxLen; omega))
          have TN := trim_any (w := w8) (ao := none) (n := 0) (c := 0) (b := 0) (o := 0) (f := fun _ => 0) ⟨Nat.le_refl _, Nat.zero_le _, fun h => absurd h (by omega), fun h => absurd h (by omega), fun i h => absurd h (by omega), fun _ => B_pos⟩
          have nz : NatV w8 (.slice none 0 0) (V f n % V G m) := ⟨none, 0, 0, 0, 0, fun _ => 0, rfl, ⟨Nat.le_refl _, Nat.zero_le _, fun h => absurd h (by omega), fun h => absurd h (by omega), fun i h => absurd h (by omega), fun _ => B_pos⟩, Or.inl rfl, y2, by omega⟩
          rw [show tl (fun _ => 0) 0 = 0 from rfl] at TN
          have HF : Hid (NatV w8 (.slice (some ⟨w2.heap.size, 0, none⟩) (tl Fq L) (tl Fq L)) (V f n / V G m) ∧ NatV w8 (.slice none 0 0) (V f n % V G m) ∧ Below w0.heap.size w0 w8) := ⟨nq, nz, hbw⟩
          clear nq nz y1 y2 hX2 hbw tv hv0 T3
          generalize tl Fq L = tq at *
          go_wp2_with (first
            | (go_at_call 231; refine SN.mono ?_; rintro e w9 ⟨rfl, rfl⟩)
            | (go_at_call_of 227 (Value.slice (none : Option Addr) 0 0); refine TN.mono ?_; rintro e wA ⟨rfl, rfl⟩)
            | (go_at_call 227; refine TQ.mono ?_; rintro e wB ⟨rfl, rfl⟩))
          refine bodyPost_ret (v := .tuple #[.slice (some ⟨w2.heap.size, 0, none⟩) tq tq, .slice none 0 0]) (by simp [results, Tryz.results230, go_sem]) rfl ⟨_, _, rfl, HF.out.1, HF.out.2.1, HF.out.2.2⟩
        · have SF : Sl w8 (some ⟨w1'.heap.size, 0, none⟩) (tl Fr' (n + 1)) (tl Fr' (n + 1)) w1'.heap.size 0 Fr' := by
            have q := HR.out.2.1.sl (o := 0) (n := tl Fr' (n + 1)) (c := tl Fr' (n + 1)) (by omega) (Nat.le_refl _) (by unfold maxLen; omega)
            rw [show (fun i => Fr' (0 + i)) = Fr' from funext fun i => by rw [Nat.zero_add]] at q
            exact q
          have hne : V Fr' (tl Fr' (n + 1)) ≠ 0 := by
            have q := Top_ge (dR     Fr' (n + 1)) (by omega)
            have := Bp_pos (tl Fr' (n + 1) - 1)
            omega
          have SN := fV            (hT.next hbw) SF (by omega) s 0 s (by omega) hs (by omega) hne
          rw [tv, Nat.sub_zero, y2] at SN
          have TQ := trim_any (aG      HR.out.2.2.1 (by unfold maxLen; omega))
          have HF : Hid (NatV w8 (.slice (some ⟨w2.heap.size, 0, none⟩) (tl Fq L) (tl Fq L)) (V f n / V G m) ∧ Row w8 w2.heap.size L Fq ∧ Below w0.heap.size w0 w8) := ⟨nq, HR.out.2.2.1, hbw⟩
          have HM : Hid (V f n % V G m < B ^ 128) := hX2
          have hln : tl Fr' (n + 1) ≤ 129 := by omega
          clear nq y1 y2 hX2 hbw tv SF hne tle T3
          generalize tl Fr' (n + 1) = tr at *
          generalize hb0 : decide (V Fr' (n + 1) % 2 ^ s ≠ 0) = bb0 at *
          clear hb0
          go_wp2_with fail
          refine SN.mono ?_
          rintro e w9 ⟨rfl, hb9, F9, R9, hv9⟩
          have TQ9 := trim_any (aG      (HF.out.2.1.below hb9) (by unfold maxLen; omega))
          have TR9 := trim_any (aG      R9 (by unfold maxLen; omega))
          obtain ⟨nr, hlr⟩ := bG      R9 (by unfold maxLen; omega) hv9 HM.out
          have HG : Hid (NatV w9 (.slice (some ⟨w2.heap.size, 0, none⟩) (tl Fq L) (tl Fq L)) (V f n / V G m) ∧ NatV w9 (.slice (some ⟨w8.heap.size, 0, none⟩) (tl F9 tr) (tl F9 tr)) (V f n % V G m) ∧ Below w0.heap.size w0 w9) := ⟨HF.out.1.below hb9, nr, HF.out.2.2.trans (hb9.mono HF.out.2.2.size)⟩
          clear TQ SN hv9 R9 nr hlr hlq
          generalize tl Fq L = tq at *
          generalize tl F9 tr = tr9 at *
          go_wp2_with fail
          refine TQ9.mono ?_
          rintro e wA ⟨rfl, rfl⟩
          go_wp2_with fail
          refine TR9.mono ?_
          rintro e wB ⟨rfl, rfl⟩
          go_wp2
          refine bodyPost_ret (v := .tuple #[.slice (some ⟨w2.heap.size, 0, none⟩) tq tq, .slice (some ⟨w8.heap.size, 0, none⟩) tr9 tr9]) (by simp [results, Tryz.results230, go_sem]) rfl ⟨_, _, rfl, HG.out.1, HG.out.2.1, HG.out.2.2⟩
theorem aGX {w:World}{ao:Option Addr}{n c b o:Nat}{f:Nat -> Nat}(S:Sl w ao n c b o f) (h:V f n ≠ 0):0<n:=by
 rcases Nat.eq_zero_or_pos n with q | q
 . subst q;exact absurd rfl h
 . exact q
theorem aDD {w:World}(hT:Tab w) {va vb:Value}{X Y:Nat}(ha:NatV w va X) (hb:NatV w vb Y) (h:Y ≠ 0) :
 Calls Tryz.prog 190 #[va,vb] w fun e w'=>∃ v1 v2,e=.returned (.tuple #[v1,v2,.nilIface])/\NatV w' v1 (X / Y)/\NatV w' v2 (X % Y)/\Bl w w':=by
 obtain ⟨ao,n,c,b,o,f,rfl,S,t,rfl,hn⟩:=ha
 obtain ⟨bo,m,cb,bb,ob,G,rfl,S',t',rfl,hm⟩:=hb
 have hm0:=aGX S' h
 have h1:=eZ S S'
 rw [fM hn t hm t'] at h1
 unfold aZ at h1
 have hz:((m:Int) == 0)=false:=beq_eq_false_iff_ne.mpr (by omega)
 go_enter Tryz.func190,Tryz.ntmps190
 go_wp2_with fail
 refine h1.mono ?_
 rintro e wa ⟨rfl,hba⟩
 have T:=aB9 (hT.next hba) (S.below hba) hn (S'.below hba) hm hm0 (t'.resolve_left (by omega))
 go_wp2_with fail
 refine T.mono ?_
 rintro e wb ⟨v1,v2,rfl,n1,n2,hbb⟩
 go_wp2
 refine bodyPost_ret (v:=.tuple #[v1,v2,.nilIface]) (by simp [results,Tryz.results190,go_sem]) rfl ⟨_,_,rfl,n1,n2,hba.trans (hbb.mono hba.size)⟩
theorem aI7 {x:Nat}:V (fun i=>if i=0 then x else 0) 1=x:=by rw [V_succ,V_zero,Nat.pow_zero];simp
theorem aGW {w:World}{x:Nat}(hx:x<B) (h0:x ≠ 0) (t:TypeId):NatV (w.alloc (.cells #[vU (x:Int)] t)) (.slice (some ⟨w.heap.size,0,none⟩) 1 1) x:=by
 refine ⟨_,1,1,w.heap.size,0,fun i=>if i=0 then x else 0,rfl,⟨Nat.le_refl _,by unfold maxLen;omega,fun _=>rfl,fun _=>by simp,fun i hi=>?_,fun i=>?_⟩,Or.inr h0,aI7,by omega⟩
 . obtain rfl:i=0:=by omega
   simp
 . show (if i=0 then x else 0)<B
   split
   . exact hx
   . exact B_pos
theorem jR (x:Nat) (hx:x<B) (w:World) :
 Calls Tryz.prog 189 #[vU (x:Int)] w fun e w'=>∃ v,e=.returned v/\NatV w' v x/\Bl w w':=by
 by_cases c:x=0
 . subst c
   go_enter Tryz.func189,Tryz.ntmps189
   go_wp2
   go_ret
   exact ⟨_,rfl,natv_nil w,Below.refl _ _⟩
 . have c':((x:Int) == 0)=false:=beq_eq_false_iff_ne.mpr (by omega)
   go_enter Tryz.func189,Tryz.ntmps189
   go_wp2
   go_ret
   exact ⟨_,rfl,aGW hx c _,bz _ _⟩
theorem aFu {w:World}{va vb:Value}{X Y:Nat}(ha:NatV w va X) (hb:NatV w vb Y) (h:X<Y) :
 Cb 269 #[va,vb] w (.tuple #[.slice none 0 0,.iface 63 (vI 21)]):=by
 obtain ⟨ao,n,c,b,o,f,rfl,S,t,rfl,hn⟩:=ha
 obtain ⟨bo,m,cb,bb,ob,G,rfl,S',t',rfl,hm⟩:=hb
 have h1:=eZ S S'
 rw [fM hn t hm t'] at h1
 unfold aZ at h1
 have hq:=jS h
 clear h
 go_enter Tryz.func269,Tryz.ntmps269
 go_wp2_with fail
 refine h1.mono ?_
 rintro e wa ⟨rfl,hba⟩
 have T:=jA (S.below hba) (S'.below hba) t t'
 rw [hq] at T
 go_wp2_with fail
 refine T.mono ?_
 rintro e wb ⟨rfl,hbb⟩
 go_wp2
 refine bodyPost_ret (v:=.tuple #[.slice none 0 0,.iface 63 (vI 21)]) (by simp [results,Tryz.results269,go_sem]) rfl ⟨rfl,hba.trans (hbb.mono hba.size)⟩
def aCv (k r:Nat):Nat:=if k=0 then r else 0
theorem mN (r:Nat):aCv 0 r=r:=rfl
theorem aG1 {k:Nat}(h:k ≠ 0) (r:Nat):aCv k r=0:=by unfold aCv;rw [if_neg h]
theorem aHN {f:Nat -> Nat}{n:Nat}(h:bE f n=0):n<=128/\Top f n:=by
 unfold bE at h
 by_cases q:128<n
 . rw [if_pos q] at h;omega
 . rw [if_neg q] at h
   refine ⟨by omega,?_⟩
   by_cases z:n=0
   . exact Or.inl z
   . right
     intro e
     rw [if_pos ⟨by omega,e⟩] at h
     omega
theorem aDO {k:Nat}(h:k ≠ 0):aZ k=.iface 63 (vI (k:Int)):=by
 cases k with
 | zero=>exact absurd rfl h
 | succ k=>rfl
theorem aFT {w:World}{ao:Option Addr}{c b o:Nat}{f:Nat -> Nat}(S:Sl w ao 0 c b o f) (h:bE f 0=0) :
 Cb 246 #[.slice ao 0 c] w (.tuple #[vU 0,.bool true]):=by
 have h1:=bV S
 rw [h] at h1
 unfold aZ at h1
 go_enter Tryz.func246,Tryz.ntmps246
 go_wp2_with fail
 refine h1.mono ?_
 rintro e wa ⟨rfl,hba⟩
 go_wp2
 refine bodyPost_ret (v:=.tuple #[vU 0,.bool true]) (by simp [results,Tryz.results246,go_sem]) rfl ⟨rfl,hba⟩
theorem aHR {w:World}{ao:Option Addr}{c b o:Nat}{f:Nat -> Nat}(S:Sl w ao 1 c b o f) (h:bE f 1=0) :
 Cb 246 #[.slice ao 1 c] w (.tuple #[vU (f 0:Int),.bool true]):=by
 have h1:=bV S
 rw [h] at h1
 unfold aZ at h1
 obtain rfl:=S.addr (by omega)
 have HS:Hid (Sl w (some ⟨b,o,none⟩) 1 c b o f):=S
 clear S
 go_enter Tryz.func246,Tryz.ntmps246
 go_wp2_with fail
 refine h1.mono ?_
 rintro e wa ⟨rfl,hba⟩
 have hc:=(HS.out.below hba).cell 0 (by omega)
 rw [Nat.add_zero] at hc
 go_wp2
 refine bodyPost_ret (v:=.tuple #[vU (f 0:Int),.bool true]) (by simp [results,Tryz.results246,go_sem]) rfl ⟨rfl,hba⟩
theorem qM {w:World}{ao:Option Addr}{n c b o:Nat}{f:Nat -> Nat}(S:Sl w ao n c b o f) (h0:0<n) (hn:n<=1000) :
 Cb 226 #[.slice ao n c] w (vI (((n:Int) - 1) * 64+aM (f (n - 1):Int))):=by
 obtain rfl:=S.addr h0
 have hc:=S.cell (n - 1) (by omega)
 have hw:=S.ws (n - 1)
 unfold B at hw
 have hb:=jJ (f (n - 1):Int) (by omega) (by omega)
 have e1:((n:Int) == 0)=false:=beq_eq_false_iff_ne.mpr (by omega)
 have HL:=aO (f (n - 1):Int) ⟨by omega,by omega⟩ w
 generalize aM (f (n - 1):Int)=L at *
 go_enter Tryz.func226,Tryz.ntmps226
 go_wp2_with fail
 refine HL.mono ?_
 rintro e w' ⟨rfl,rfl⟩
 go_wp2
 go_ret
 exact ⟨rfl,Below.refl _ _⟩
theorem cM (k:Nat):B ^ k=2 ^ (64 * k):=by
 rw [Nat.pow_mul]
 rfl
theorem aEr {f:Nat -> Nat}{n:Nat}(hf:Ws f) (t:Top f n) (h0:0<n):∃ L:Nat,((n:Int) - 1) * 64+aM (f (n - 1):Int)=(L:Int)+1/\2 ^ L<=V f n:=by
 obtain ⟨k,rfl⟩:∃ k,n=k+1:=⟨n - 1,by omega⟩
 have tk:f k ≠ 0:=by
  rcases t with z | z
  . omega
  . simpa using z
 have hw:=hf k
 have hw':f k<18446744073709551616:=hw
 obtain ⟨m,e,hm,h1,_⟩:=aW (f k:Int) (by omega) (by omega)
 refine ⟨64 * k+m,?_,?_⟩
 . rw [show k+1 - 1=k by omega,e]
   omega
 . rw [V_succ,Nat.pow_add,<- cM]
   have h1':2 ^ m<=f k:=by exact_mod_cast h1
   have:=Nat.mul_le_mul_left (B ^ k) h1'
   rw [Nat.mul_comm (B ^ k) (f k)] at this
   omega
theorem eW {w:World}{va:Value}{X:Nat}(ha:NatV w va X) (s:Nat) (h:X * 2 ^ s<B ^ 128) (hs:s<=8192) :
 Calls Tryz.prog 188 #[va,vI (s:Int)] w fun e w'=>∃ v,e=.returned (.tuple #[v,.nilIface])/\NatV w' v (X * 2 ^ s)/\Bl w w':=by
 obtain ⟨ao,n,c,b,o,f,rfl,S,t,rfl,hn⟩:=ha
 have h1:=bV S
 rw [cS hn t] at h1
 unfold aZ at h1
 by_cases h0:n=0
 . subst h0
   go_enter Tryz.func188,Tryz.ntmps188
   go_wp2_with fail
   refine h1.mono ?_
   rintro e wa ⟨rfl,hba⟩
   go_wp2
   refine bodyPost_ret (v:=.tuple #[.slice none 0 0,.nilIface]) (by simp [results,Tryz.results188,go_sem]) rfl ⟨_,rfl,?_,hba⟩
   rw [V_zero,Nat.zero_mul]
   exact natv_nil _
 . have e1:((n:Int) == 0)=false:=beq_eq_false_iff_ne.mpr (by omega)
   obtain ⟨L,eL,hL⟩:=aEr S.ws t (by omega)
   have hLs:L+s<8192:=by
    obtain ⟨M,hM,hBM⟩:∃ M,M=8192/\B ^ 128=2 ^ M:=⟨64 * 128,rfl,cM 128⟩
    have q:2 ^ (L+s)<2 ^ M:=by
     rw [Nat.pow_add]
     refine Nat.lt_of_le_of_lt (Nat.mul_le_mul_right _ hL) ?_
     rw [hBM] at h
     exact h
    have:=(Nat.pow_lt_pow_iff_right (a:=2) (by omega)).1 q
    omega
   have HH:Hid (V f n * 2 ^ s<B ^ 128):=h
   have HS:Hid (Sl w ao n c b o f):=S
   obtain ⟨q,p,hsq,hp⟩:∃ q p,s=64 * q+p/\p<64:=⟨s / 64,s % 64,by omega,by omega⟩
   have hq:q<=1000:=by omega
   have cL:¬ (8192:Int) - ((L:Int)+1)<(s:Int):=by omega
   have cL2:(0:Int)<=(s:Int):=by omega
   have HQ:Hid (s=64 * q+p):=hsq
   clear h hL S t hsq
   go_enter Tryz.func188,Tryz.ntmps188
   go_wp2_with fail
   refine h1.mono ?_
   rintro e wa ⟨rfl,hba⟩
   have LN:=qM (HS.out.below hba) (by omega) (by omega)
   rw [eL] at LN
   clear h1
   go_wp2_with fail
   refine LN.mono ?_
   rintro e wb ⟨rfl,hbb⟩
   have BB:Bl w wb:=hba.trans (hbb.mono hba.size)
   have SU:=jE (HS.out.below BB) (by omega) s q p HQ.out hp hq
   clear LN eL hba hbb
   go_wp2_with fail
   refine SU.mono ?_
   rintro e wc ⟨rfl,hbc,F,R,hv⟩
   obtain ⟨nv,hl⟩:=bG R (by unfold maxLen;omega) hv HH.out
   have BC:Bl w wc:=BB.trans (hbc.mono BB.size)
   have TT:=trim_any (aG R (by unfold maxLen;omega))
   go_wp2_with fail
   refine TT.mono ?_
   rintro e w4 ⟨rfl,rfl⟩
   go_wp2
   refine bodyPost_ret (v:=.tuple #[.slice (some ⟨wb.heap.size,0,none⟩) (tl F (q+n+1)) (tl F (q+n+1)),.nilIface]) (by simp [results,Tryz.results188,go_sem]) rfl ⟨_,rfl,nv,BC⟩
theorem aEq {f:Nat -> Nat}{n:Nat}(hf:Ws f) (t:Top f n) (h0:0<n):((n:Int) - 1) * 64+aM (f (n - 1):Int)=(bl (V f n):Int):=by
 obtain ⟨k,rfl⟩:∃ k,n=k+1:=⟨n - 1,by omega⟩
 have tk:f k ≠ 0:=by
  rcases t with z | z
  . omega
  . simpa using z
 have hw':f k<18446744073709551616:=hf k
 obtain ⟨m,e,hm,h1,h2⟩:=aW (f k:Int) (by omega) (by omega)
 have h1':2 ^ m<=f k:=by exact_mod_cast h1
 have h2':f k<2 ^ (m+1):=by exact_mod_cast h2
 have lo:=V_lt hf k
 rw [cM] at lo
 have ev:V f (k+1)=V f k+f k * 2 ^ (64 * k):=by rw [V_succ,cM]
 have hb:bl (V f (k+1))=64 * k+m+1:=by
  rw [ev]
  refine pV ?_ ?_
  . rw [Nat.pow_add,Nat.mul_comm (2 ^ (64 * k))]
    have:=Nat.mul_le_mul_right (2 ^ (64 * k)) h1'
    omega
  . rw [Nat.add_assoc,Nat.pow_add,Nat.mul_comm (2 ^ (64 * k))]
    have:=Nat.mul_le_mul_right (2 ^ (64 * k)) (Nat.succ_le_of_lt h2')
    rw [Nat.succ_mul] at this
    omega
 rw [show k+1 - 1=k by omega,e,hb]
 omega
theorem aAV {w:World}{ao:Option Addr}{n c b o:Nat}{f:Nat -> Nat}(S:Sl w ao n c b o f) (t:Top f n) (hn:n<=1000) :
 Cb 226 #[.slice ao n c] w (vI (bl (V f n):Int)):=by
 by_cases h0:n=0
 . subst h0
   have e:bl (V f 0)=0:=rfl
   rw [e]
   clear e
   go_enter Tryz.func226,Tryz.ntmps226
   go_wp2
   go_ret
   exact ⟨rfl,Below.refl _ _⟩
 . rw [<- aEq S.ws t (by omega)]
   exact qM S (by omega) hn
theorem tN {w:World}{ao:Option Addr}{n c b o:Nat}{f:Nat -> Nat}(S:Sl w ao n c b o f) :
 Cb 224 #[.slice ao n c] w (.tuple #[vI (aCv (bE f n) (bl (V f n)):Int),aZ (bE f n)]):=by
 have h1:=bV S
 by_cases q:bE f n=0
 . obtain ⟨hn,t⟩:=aHN q
   rw [q] at h1 ⊢
   rw [mN]
   unfold aZ at h1 ⊢
   have HS:Hid (Sl w ao n c b o f/\Top f n):=⟨S,t⟩
   clear S t q
   go_enter Tryz.func224,Tryz.ntmps224
   go_wp2_with fail
   refine h1.mono ?_
   rintro e wa ⟨rfl,hba⟩
   have T:=aAV (HS.out.1.below hba) HS.out.2 (by omega)
   go_wp2_with fail
   refine T.mono ?_
   rintro e wb ⟨rfl,hbb⟩
   go_wp2
   refine bodyPost_ret (v:=.tuple #[vI (bl (V f n):Int),.nilIface]) (by simp [results,Tryz.results224,go_sem]) rfl ⟨rfl,hba.trans (hbb.mono hba.size)⟩
 . rw [aG1 q]
   rw [aDO q] at h1 ⊢
   generalize bE f n=k at *
   go_enter Tryz.func224,Tryz.ntmps224
   go_wp2_with fail
   refine h1.mono ?_
   rintro e wa ⟨rfl,hba⟩
   go_wp2
   refine bodyPost_ret (v:=.tuple #[vI 0,.iface 63 (vI (k:Int))]) (by simp [results,Tryz.results224,go_sem]) rfl ⟨rfl,hba⟩
theorem aKy {w:World}{va vb:Value}{X Y:Nat}(ha:NatV w va X) (hb:NatV w vb Y) :
 Cb 245 #[va,vb] w (.tuple #[vI (ord X Y),.nilIface]):=by
 obtain ⟨ao,n,c,b,o,f,rfl,S,t,rfl,hn⟩:=ha
 obtain ⟨bo,m,cb,bb,ob,G,rfl,S',t',rfl,hm⟩:=hb
 have h1:=eZ S S'
 rw [fM hn t hm t'] at h1
 unfold aZ at h1
 go_enter Tryz.func245,Tryz.ntmps245
 go_wp2_with fail
 refine h1.mono ?_
 rintro e wa ⟨rfl,hba⟩
 have T:=jA (S.below hba) (S'.below hba) t t'
 go_wp2_with fail
 refine T.mono ?_
 rintro e wb ⟨rfl,hbb⟩
 go_wp2
 refine bodyPost_ret (v:=.tuple #[vI (ord (V f n) (V G m)),.nilIface]) (by simp [results,Tryz.results245,go_sem]) rfl ⟨rfl,hba.trans (hbb.mono hba.size)⟩
theorem aIY (x:Nat) (hx:x<B) (w:World) :
 Cs 240 #[vU (x:Int)] w (vI (aM (x:Int))):=by
 unfold B at hx
 have T:=aO (x:Int) ⟨by omega,by omega⟩ w
 go_enter Tryz.func240,Tryz.ntmps240
 go_wp2_with fail
 refine T.mono ?_
 rintro e wa ⟨rfl,rfl⟩
 go_wp2
 go_ret
 exact ⟨rfl,rfl⟩
theorem aF5 {x:Nat}(hx:x<B):∃ K:Nat,aM (x:Int)=(K:Int)/\K<=64/\x<2 ^ K:=by
 unfold B at hx
 by_cases c:x=0
 . subst c;exact ⟨0,by decide,by omega,by decide⟩
 . obtain ⟨n,e,hn,h1,h2⟩:=aW (x:Int) (by omega) (by omega)
   refine ⟨n+1,by omega,by omega,?_⟩
   rw [aL] at h2
   omega
theorem aCB        {b n k : Nat} (h : b ^ n < B ^ 128) (hk : k ≤ n) : b ^ k < B ^ 128 := by
  rcases Nat.eq_zero_or_pos b with c | c
  · subst c
    refine Nat.lt_of_le_of_lt (?_ : 0 ^ k ≤ 1) (by have : 1 < B := by decide
                                                   exact Nat.one_lt_pow (by omega) this)
    rcases Nat.eq_zero_or_pos k with d | d
    · subst d; decide
    · rw [Nat.zero_pow d]; omega
  · exact Nat.lt_of_le_of_lt (Nat.pow_le_pow_right c hk) h
theorem aFZ (a:Nat) (ha:a<9223372036854775808):bits .and .i64 (a:Int) 1=((a % 2:Nat):Int):=by
 have h1:(BitVec.ofInt 64 (a:Int)).toNat=a:=by
  rw [BitVec.ofInt_natCast,BitVec.toNat_ofNat];exact Nat.mod_eq_of_lt (by omega)
 show IntKind.i64.wrap ((BitVec.ofInt 64 (a:Int) &&& BitVec.ofInt 64 (1:Int)).toNat:Int)=_
 rw [BitVec.toNat_and,h1,show (BitVec.ofInt 64 (1:Int)).toNat=1 by decide,Nat.and_one_is_mod,IntWalk.i64_left,IntWalk.wrap64_in _ ⟨by omega,by omega⟩]
theorem aF3 (n i:Nat):n / 2 ^ i=2 * (n / 2 ^ (i+1))+n / 2 ^ i % 2:=by
 rw [Nat.pow_succ,<- Nat.div_div_eq_div_mul];omega
theorem zW (b n:Nat) (hb:b<B) (hn:n<=9223372036854775807) (hf:b ^ n<B ^ 128) (w:World) :
 Calls Tryz.prog 198 #[vU (b:Int),vI (n:Int)] w fun e w'=>∃ v,e=.returned (.tuple #[v,.nilIface])/\NatV w' v (b ^ n)/\Bl w w':=by
 obtain ⟨K,eK,hK,hnK⟩:=aF5 (x:=n) (by unfold B;omega)
 have LN:=fun W=>aIY n (by unfold B;omega) W
 rw [eK] at LN
 have O1:=fun W=>jR 1 (by decide) W
 have O2:=fun W=>jR b hb W
 have HF:Hid (b ^ n<B ^ 128/\n<2 ^ K):=⟨hf,hnK⟩
 clear hf hnK eK
 go_enter Tryz.func198,Tryz.ntmps198
 go_wp2_with fail
 refine (O1 _).mono ?_
 rintro e w1 ⟨v1,rfl,nv1,hb1⟩
 go_wp2_with fail
 refine (O2 _).mono ?_
 rintro e w2 ⟨v2,rfl,nv2,hb2⟩
 have hB2:Bl w w2:=hb1.trans (hb2.mono hb1.size)
 have nv1':=nv1.below hb2
 go_wp2_with fail
 refine (LN _).mono ?_
 rintro e w3 ⟨rfl,rfl⟩
 clear LN O1 O2
 go_wp2
 go_loopw [6,8] (fun z i wr=>∃ k:Nat,i=vI ((k:Int) - 1)/\k<=K/\NatV wr z (b ^ (n / 2 ^ k))/\NatV wr v2 b/\Bl w wr) (fun _ i _=>(intOf i+1).toNat)
 case atStart=>exact ⟨K,rfl,Nat.le_refl _,by rw [Nat.div_eq_of_lt HF.out.2,Nat.pow_zero];exact nv1',nv2,hB2⟩
 case round =>
  obtain ⟨k,rfl,hk,nz,nf,hbl⟩:=hrel
  by_cases c1:0<k
  . obtain ⟨i,rfl⟩:∃ i,k=i+1:=⟨k - 1,by omega⟩
    obtain ⟨ao,zn,zc,zb,zo,f,rfl,S,t,hv,hzn⟩:=nz
    have nf':=nf
    obtain ⟨bo,fn,fc,fb,fo,G,rfl,S',t',hv',hfn⟩:=nf'
    have M1:=iG S S (by omega) (by omega)
    rw [hv] at M1
    have hfit:b ^ (n / 2 ^ i)<B ^ 128:=aCB HF.out.1 (Nat.div_le_self _ _)
    have hst:=aF3 n i
    have hand:bits BinOp.and IntKind.i64 ((n:Int) / 2 ^ i) 1=((n / 2 ^ i % 2:Nat):Int):=by
     have q:=aFZ (n / 2 ^ i) (Nat.lt_of_le_of_lt (Nat.div_le_self _ _) (by omega))
     rw [<- q,aL];rfl
    have HB:Hid (Bl w wr/\NatV wr (.slice bo fn fc) b):=⟨hbl,nf⟩
    have hi63:i<64:=by omega
    clear t t' nf hv
    have hn0:(0:Int)<=(n:Int) / 2 ^ i:=by rw [aL];exact Int.natCast_nonneg (n / 2 ^ i)
    rw [show ((i+1:Nat):Int) - 1=(i:Int) by omega]
    rcases Nat.mod_two_eq_zero_or_one (n / 2 ^ i) with hb0 | hb0
    . rw [hb0] at hand hst
      have hX:b ^ (n / 2 ^ (i+1)) * b ^ (n / 2 ^ (i+1))=b ^ (n / 2 ^ i):=by rw [<- Nat.pow_add,hst];congr 1;omega
      rw [hX] at M1
      clear hb0 hst hX
      go_wp2_with fail
      refine M1.mono ?_
      rintro e w4 ⟨rfl,hb4,F4,R4,hv4⟩
      obtain ⟨nv,hl⟩:=bG R4 (by unfold maxLen;omega) hv4 hfit
      have FT:=hI (aG R4 (by unfold maxLen;omega)) hl
      have H4:Hid (NatV w4 (.slice (some ⟨wr.heap.size,0,none⟩) (tl F4 (zn+zn)) (tl F4 (zn+zn))) (b ^ (n / 2 ^ i))/\NatV w4 (.slice bo fn fc) b/\Bl w w4):=⟨nv,HB.out.2.below hb4,HB.out.1.trans (hb4.mono HB.out.1.size)⟩
      clear nv hl hv4 R4 hbl
      generalize tl F4 (zn+zn)=tz at *
      go_wp2_with fail
      refine FT.mono ?_
      rintro e w5 ⟨rfl,rfl⟩
      go_wp2
      go_roundw
      case rel=>exact ⟨i,by go_num,by omega,H4.out.1,H4.out.2.1,H4.out.2.2⟩
      case measure=>first | (simp [intOf];done) | (simp [intOf];omega)
    . rw [hb0] at hand hst
      have hX:b ^ (n / 2 ^ (i+1)) * b ^ (n / 2 ^ (i+1)) * b=b ^ (n / 2 ^ i):=by rw [<- Nat.pow_add,hst,<- Nat.pow_succ];congr 1;omega
      clear hb0 hst
      go_wp2_with fail
      refine M1.mono ?_
      rintro e w4 ⟨rfl,hb4,F4,R4,hv4⟩
      have M2:=iG (aG R4 (by unfold maxLen;omega)) (S'.below hb4) (by omega) (by omega)
      rw [hv4,hv',hX] at M2
      have H4:Hid (NatV w4 (.slice bo fn fc) b/\Bl w w4):=⟨HB.out.2.below hb4,HB.out.1.trans (hb4.mono HB.out.1.size)⟩
      clear hv4 R4 hbl
      go_wp2_with fail
      refine M2.mono ?_
      rintro e w5 ⟨rfl,hb5,F5,R5,hv5⟩
      obtain ⟨nv,hl⟩:=bG R5 (by unfold maxLen;omega) hv5 hfit
      have FT:=hI (aG R5 (by unfold maxLen;omega)) hl
      have H5:Hid (NatV w5 (.slice (some ⟨w4.heap.size,0,none⟩) (tl F5 (zn+zn+fn)) (tl F5 (zn+zn+fn))) (b ^ (n / 2 ^ i))/\NatV w5 (.slice bo fn fc) b/\Bl w w5):=⟨nv,H4.out.1.below hb5,H4.out.2.trans (hb5.mono H4.out.2.size)⟩
      clear nv hl hv5 R5
      generalize tl F5 (zn+zn+fn)=tz at *
      go_wp2_with fail
      refine FT.mono ?_
      rintro e w6 ⟨rfl,rfl⟩
      go_wp2
      go_roundw
      case rel=>exact ⟨i,by go_num,by omega,H5.out.1,H5.out.2.1,H5.out.2.2⟩
      case measure=>first | (simp [intOf];done) | (simp [intOf];omega)
  . obtain rfl:k=0:=by omega
    rw [Nat.pow_zero,Nat.div_one] at nz
    have HB:Hid (Bl w wr):=hbl
    clear hbl c1
    go_wp2
    refine bodyPost_ret (v:=.tuple #[u6,.nilIface]) (by simp [results,Tryz.results198,go_sem]) rfl ⟨_,rfl,nz,HB.out⟩
end Go.Proofs.YtejgpbhionadbaaGreatDoor
