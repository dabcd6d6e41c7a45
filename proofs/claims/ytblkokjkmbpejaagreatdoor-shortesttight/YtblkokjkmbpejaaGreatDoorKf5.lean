/-
  Holds: VNatS.
-/
import Derived.Test.YtblkokjkmbpejaaGreatDoorRows
import Derived.Laws.Externs
import Derived.WalkKit
import Derived.WalkSpells
import Derived.WalkLawsBesides
import Derived.Lib.Mul64
import Derived.Deep.OwnRows
import Derived.Laws.CopyOwn
import Derived.Test.YtblkokjkmbpejaaGreatDoorKf3
set_option maxRecDepth 100000
set_option maxHeartbeats 4000000
namespace Go.Proofs.YtblkokjkmbpejaaGreatDoor
open Go.RowKit
structure Sl (w:World) (ao:Option Addr) (n c:Nat) (b o:Nat) (f:Nat -> Nat):Prop where
 le:n<=c
 cap:c<=maxLen
 addr:0<n -> ao=some ⟨b,o,none⟩
 blk:0<n -> b<w.heap.size
 cell:∀ i,i<n -> w.cell? ⟨b,o+i,none⟩=some (vU (f i:Int))
 ws:Ws f
theorem Sl.below {w w':World}{ao:Option Addr}{n c b o:Nat}{f:Nat -> Nat}(S:Sl w ao n c b o f) (hb:Bl w w'):Sl w' ao n c b o f :=
 ⟨S.le,S.cap,S.addr,fun h=>Nat.lt_of_lt_of_le (S.blk h) hb.size,fun i hi=>(hb.cell (p:=⟨b,o+i,none⟩) (S.blk (by omega))).trans (S.cell i hi),S.ws⟩
def dY:Nat -> Value
 | 0=>.nilIface
 | k+1=>.iface 69 (vI ((k+1:Nat):Int))
def cV (f:Nat -> Nat) (n:Nat):Nat:=if 128<n then 20 else if 0<n/\f (n - 1)=0 then 1 else 0
theorem fZ {f:Nat -> Nat}{n:Nat}(h:n<=128) (t:Top f n):cV f n=0:=by
 unfold cV
 rw [if_neg (by omega),if_neg]
 rintro ⟨a,b⟩
 rcases t with t | t
 . omega
 . exact t b
theorem dW {w:World}{ao:Option Addr}{n c b o:Nat}{f:Nat -> Nat}(S:Sl w ao n c b o f) :
 Cb 149 #[.slice ao n c] w (dY (cV f n)):=by
 have hn:n<=maxLen:=Nat.le_trans S.le S.cap
 unfold maxLen at hn
 by_cases c1:128<n
 . have e:dY (cV f n)=.iface 69 (vI 20):=by unfold cV;rw [if_pos c1];rfl
   rw [e]
   clear e
   have c1':(128:Int)<(n:Int):=by omega
   go_enter Tryz.func149,Tryz.ntmps149
   go_wp2
   go_ret
   exact ⟨rfl,Below.refl _ _⟩
 . by_cases c2:0<n
   . obtain rfl:=S.addr c2
     have hc:=S.cell (n - 1) (by omega)
     by_cases c3:f (n - 1)=0
     . have e:dY (cV f n)=.iface 69 (vI 1):=by unfold cV;rw [if_neg c1,if_pos ⟨c2,c3⟩];rfl
       rw [e]
       rw [c3] at hc
       clear e
       go_enter Tryz.func149,Tryz.ntmps149
       go_wp2
       go_ret
       exact ⟨rfl,Below.refl _ _⟩
     . have e:dY (cV f n)=.nilIface:=by unfold cV;rw [if_neg c1,if_neg (fun x=>c3 x.2)];rfl
       rw [e]
       clear e
       have c3':(((f (n - 1):Nat):Int) == 0)=false:=beq_eq_false_iff_ne.mpr (by omega)
       go_enter Tryz.func149,Tryz.ntmps149
       go_wp2
       go_ret
       exact ⟨rfl,Below.refl _ _⟩
   . have e:dY (cV f n)=.nilIface:=by unfold cV;rw [if_neg c1,if_neg (fun x=>c2 x.1)];rfl
     rw [e]
     clear e
     obtain rfl:n=0:=by omega
     go_enter Tryz.func149,Tryz.ntmps149
     go_wp2
     go_ret
     exact ⟨rfl,Below.refl _ _⟩
def gQ (f:Nat -> Nat) (n:Nat) (g:Nat -> Nat) (m:Nat):Nat:=if cV f n=0 then cV g m else cV f n
theorem aA2 {f g:Nat -> Nat}{n m:Nat}(h:n<=128) (t:Top f n) (h':m<=128) (t':Top g m):gQ f n g m=0:=by
 unfold gQ;rw [if_pos (fZ h t),fZ h' t']
theorem zA       {w : World} {ao : Option Addr} {n c b o : Nat} {f : Nat → Nat} (S : Sl w ao n c b o f) {ao' : Option Addr} {n' c' b' o' : Nat} {f' : Nat → Nat} (S' : Sl w ao' n' c' b' o' f') :
    Calls Tryz.prog 148 #[.slice ao n c, .slice ao' n' c'] w fun e w' => e = .returned (dY   (gQ    f n f' n')) ∧ Below w.heap.size w w' := by
  have h1 := dW        S
  cases q : cV   f n with
  | zero =>
    rw [q] at h1
    have e : gQ    f n f' n' = cV   f' n' := by unfold gQ   ; rw [if_pos q]
    rw [e]
    clear q e
    go_enter Tryz.func148, Tryz.ntmps148
    go_wp2_with fail
    refine h1.mono ?_
    rintro e wa ⟨rfl, hba⟩
    unfold dY
    have S2 := S'.below hba
    go_wp2_with fail
    refine (dW        S2).mono ?_
    rintro e wb ⟨rfl, hbb⟩
    go_wp2
    go_ret
    exact ⟨rfl, hba.trans (hbb.mono hba.size)⟩
  | succ k =>
    rw [q] at h1
    have e : gQ    f n f' n' = k + 1 := by unfold gQ   ; rw [if_neg (by omega), q]
    rw [e]
    clear q e
    go_enter Tryz.func148, Tryz.ntmps148
    go_wp2_with fail
    refine h1.mono ?_
    rintro e wa ⟨rfl, hba⟩
    unfold dY
    go_wp2
    go_ret
    exact ⟨rfl, hba⟩
theorem trim_any {w : World} {ao : Option Addr} {n c b o : Nat} {f : Nat → Nat} (S : Sl w ao n c b o f) :
    Calls Tryz.prog 151 #[.slice ao n c] w fun e w' => e = .returned (.slice ao (tl f n) (tl f n)) ∧ w' = w := by
  have hn : n ≤ maxLen := Nat.le_trans S.le S.cap
  have hnc := S.le
  unfold maxLen at hn
  have HS : Hid (Sl w ao n c b o f) := S
  clear S
  go_enter Tryz.func151, Tryz.ntmps151
  go_wp2
  go_loop [3] (fun i => ∃ k : Nat, i = .int .i64 k ∧ k ≤ n ∧ tl f n = tl f k) (fun i => (intOf i).toNat)
  case atStart => exact ⟨n, rfl, Nat.le_refl _, rfl⟩
  case round =>
    obtain ⟨k, rfl, hk, htl⟩ := hrel
    have HT : Hid (tl f n = tl f k) := htl
    clear htl
    by_cases c1 : 0 < k
    · obtain rfl := HS.out.addr (by omega)
      have hc := HS.out.cell (k - 1) (by omega)
      by_cases c3 : f (k - 1) = 0
      · rw [c3] at hc
        have HT2 : Hid (tl f n = tl f (k - 1)) := by
          have a := tl_zero (f := f) (n := k - 1) c3
          rw [show k - 1 + 1 = k by omega] at a
          exact HT.out.trans a
        clear c3
        go_wp2
        go_round
        case rel => exact ⟨k - 1, by go_num, by omega, HT2.out⟩
        case measure => simp [intOf]; omega
      · have c3' : (((f (k - 1) : Nat) : Int) == 0) = false := beq_eq_false_iff_ne.mpr (by omega)
        have HT2 : Hid (tl f n = k) := by
          have a := tl_stop (f := f) (n := k - 1) c3
          rw [show k - 1 + 1 = k by omega] at a
          exact HT.out.trans a
        clear c3
        go_wp2
        go_ret
        exact ⟨by rw [HT2.out]; rfl, rfl⟩
    · obtain rfl : k = 0 := by omega
      have HT2 : Hid (tl f n = 0) := HT.out
      clear HT c1
      cases ao with
      | none =>
        go_wp2
        go_ret
        exact ⟨by rw [HT2.out]; rfl, rfl⟩
      | some a =>
        go_wp2
        go_ret
        exact ⟨by rw [HT2.out]; rfl, rfl⟩
theorem nU {w:World}{ao:Option Addr}{n c b o:Nat}{f:Nat -> Nat}(S:Sl w ao n c b o f) (h:tl f n<=128) :
 Cs 147 #[.slice ao n c] w (.tuple #[.slice ao (tl f n) (tl f n),.nilIface]):=by
 generalize hm:tl f n=m at *
 have h1:=trim_any S
 rw [hm] at h1
 clear hm
 go_enter Tryz.func147,Tryz.ntmps147
 go_wp2_with fail
 refine h1.mono ?_
 rintro e wa ⟨rfl,rfl⟩
 go_wp2
 refine bodyPost_ret (v:=.tuple #[.slice ao m m,.nilIface]) (by simp [results,Tryz.results147,go_sem]) rfl ⟨rfl,rfl⟩
end Go.Proofs.YtblkokjkmbpejaaGreatDoor
