/-
  Holds: UScA.
-/
import Derived.Test.YtejgpbhionadbaaGreatDoorChecked
import Derived.WalkKit
import Derived.Deep.DeepMust
import Derived.Lib.Strings
import Derived.Lib.BufferWrite
import Derived.Deep.OwnRows
import Derived.Deep.RegionHeld3
import Derived.Deep.QuietTactic
import Derived.BigQuiet
import Derived.Test.YtejgpbhionadbaaGreatDoorXl2
set_option maxRecDepth 100000
set_option maxHeartbeats 4000000
namespace Go.Proofs.YtejgpbhionadbaaGreatDoor
open Go.RowKit
theorem sX (c:UInt8):((sml c).toNat:Int)=if 65<=(c.toNat:Int)/\(c.toNat:Int)<=90 then (c.toNat:Int)+32 else (c.toNat:Int):=by
 unfold sml
 by_cases h:65<=c.toNat/\c.toNat<=90
 . rw [if_pos h,if_pos (by omega),UInt8.toNat_add,show (32:UInt8).toNat=32 from rfl];omega
 . rw [if_neg h,if_neg (by omega)]
theorem uT (c:UInt8) (w:World):Cs 126 #[.int .u8 (c.toNat:Int)] w (.int .u8 ((sml c).toNat:Int)):=by
 have hc:=UInt8.toNat_lt c
 rw [sX]
 obtain ⟨n,hn⟩:∃ n:Nat,c.toNat=n:=⟨_,rfl⟩
 rw [hn] at hc ⊢
 clear hn
 by_cases a:65<=(n:Int)
 . by_cases b:(n:Int)<=90
   . rw [if_pos ⟨a,b⟩]
     go_enter Tryz.func126,Tryz.ntmps126
     go_wp2
     go_ret
     exact ⟨by go_num,rfl⟩
   . rw [if_neg (fun z=>b z.2)]
     go_enter Tryz.func126,Tryz.ntmps126
     go_wp2
     go_ret
     exact ⟨rfl,rfl⟩
 . rw [if_neg (fun z=>a z.1)]
   go_enter Tryz.func126,Tryz.ntmps126
   go_wp2
   go_ret
   exact ⟨rfl,rfl⟩
theorem dJ (c:UInt8) (w:World):Cs 53 #[.int .u8 (c.toNat:Int)] w (.int .u8 ((sml c).toNat:Int)):=by
 have hc:=UInt8.toNat_lt c
 rw [sX]
 obtain ⟨n,hn⟩:∃ n:Nat,c.toNat=n:=⟨_,rfl⟩
 rw [hn] at hc ⊢
 clear hn
 by_cases a:65<=(n:Int)
 . by_cases b:(n:Int)<=90
   . rw [if_pos ⟨a,b⟩]
     go_enter Tryz.func53,Tryz.ntmps53
     go_wp2
     go_ret
     exact ⟨by go_num,rfl⟩
   . rw [if_neg (fun z=>b z.2)]
     go_enter Tryz.func53,Tryz.ntmps53
     go_wp2
     go_ret
     exact ⟨rfl,rfl⟩
 . rw [if_neg (fun z=>a z.1)]
   go_enter Tryz.func53,Tryz.ntmps53
   go_wp2
   go_ret
   exact ⟨rfl,rfl⟩
theorem aHO {d c:UInt8}{t r:List UInt8}:wdB (d :: t) (c :: r)=((sml c == d) && wdB t r):=rfl
theorem nL        : ∀ (t l : List UInt8), l.length < t.length → wdB t l = false
  | [], _, h => absurd h (by simp)
  | _ :: _, [], _ => rfl
  | d :: t, c :: r, h => by
    rw [aHO     , nL        t r (by simpa using h), Bool.and_false]
theorem kA (s t:ByteArray) (hs:s.size<=140737488351256) (w:World):Cb 94 #[.string s,.string t] w (.bool (wdB t.data.toList s.data.toList)):=by
 obtain ⟨R,hR⟩:∃ R,R=wdB t.data.toList s.data.toList:=⟨_,rfl⟩
 rw [<- hR]
 by_cases h:s.size<t.size
 . have h':(s.size:Int)<(t.size:Int):=by omega
   have e:R=false:=by rw [hR];exact nL _ _ h
   subst e
   clear hR h
   go_enter Tryz.func94,Tryz.ntmps94
   go_wp2
   go_ret
   exact ⟨rfl,Below.refl _ _⟩
 . have h':¬ (s.size:Int)<(t.size:Int):=by omega
   have HH:Hid (¬ s.size<t.size):=h
   have HR:Hid (R=wdB t.data.toList s.data.toList):=hR
   clear hR h
   go_enter Tryz.func94,Tryz.ntmps94
   go_wp2
   go_loopw [13] (fun i wr=>∃ k:Nat,k<=t.size/\i=vI (k:Int)/\Hid (R=wdB (t.data.toList.drop k) (s.data.toList.drop k)/\Bl w wr)) (fun i _=>t.size - (intOf i).toNat)
   case atStart=>exact ⟨0,Nat.zero_le _,rfl,HR.out,Below.refl _ _⟩
   case round =>
    obtain ⟨k,hk,rfl,HK⟩:=hrel
    by_cases hlt:k<t.size
    . have hls:k<s.size:=by have:=HH.out;omega
      have i1:(k:Int)<(t.size:Int):=by omega
      have i2:(k:Int)<(s.size:Int):=by omega
      have i0:(0:Int)<=(k:Int):=by omega
      have SM:=fun W=>uT (s[k]'hls) W
      have HW:Hid (wdB (t.data.toList.drop k) (s.data.toList.drop k)=((sml (s[k]'hls) == t[k]'hlt) && wdB (t.data.toList.drop (k+1)) (s.data.toList.drop (k+1)))):=by
       show _=_
       rw [bN t hlt,bN s hls];rfl
      by_cases q:sml (s[k]'hls)=t[k]'hlt
      . rw [q] at SM
        have HK2:Hid (R=wdB (t.data.toList.drop (k+1)) (s.data.toList.drop (k+1))/\Bl w wr):=⟨by rw [HK.out.1,HW.out,q];simp,HK.out.2⟩
        clear q HW HK
        go_wp2
        go_region_held3 (fun _=>True) (trivial) (first | (go_at_call 126;refine (SM _).mono ?_;rintro e w2 ⟨rfl,rfl⟩))
        all_goals
         go_wp2
         go_roundw
         case rel=>exact ⟨k+1,by omega,by go_num,HK2.out.1,HK2.out.2.drew⟩
         case measure=>simp [intOf];omega
      . have q2:(((sml (s[k]'hls)).toNat:Int) != ((t[k]'hlt).toNat:Int))=true:=bne_iff_ne.mpr fun y=>q (UInt8.toNat_inj.mp (Int.ofNat_inj.mp y))
        have HK2:Hid (R=false/\Bl w wr):=⟨by rw [HK.out.1,HW.out,beq_eq_false_iff_ne.mpr q,Bool.false_and],HK.out.2⟩
        generalize ((sml (s[k]'hls)).toNat:Int)=x at *
        clear q HW HK
        go_wp2
        go_region_held3 (fun _=>True) (trivial) (first | (go_at_call 126;refine (SM _).mono ?_;rintro e w2 ⟨rfl,rfl⟩))
        all_goals
         go_wp2
         go_ret
         exact ⟨by rw [HK2.out.1];rfl,HK2.out.2.drew⟩
    . have i1:¬ (k:Int)<(t.size:Int):=by omega
      have HK2:Hid (R=true):=by
       show _=_
       rw [HK.out.1,bP t hlt];rfl
      go_wp2
      go_ret
      exact ⟨by rw [HK2.out];rfl,HK.out.2⟩
def bs:Bool -> Nat
 | true=>16
 | false=>10
theorem aL0 (x:Bool):bs x<=36:=by cases x <;> decide
theorem jO {c:UInt8}{n:Nat}(h:c.toNat=n):isD 10 c=decide (48<=n/\n<=57):=by
 unfold isD dv
 rw [h]
 by_cases a:48<=n/\n<=57
 . rw [if_pos a,decide_eq_true a,decide_eq_true (by omega)]
 . rw [if_neg a,decide_eq_false a]
   split
   . exact decide_eq_false (by omega)
   . split
     . exact decide_eq_false (by omega)
     . rfl
theorem aBr {c:UInt8}{n:Nat}(h:c.toNat=n):isD 16 c=decide (48<=n/\n<=57 \/ 97<=n/\n<=102 \/ 65<=n/\n<=70):=by
 unfold isD dv
 rw [h]
 by_cases a:48<=n/\n<=57
 . rw [if_pos a,decide_eq_true (Or.inl a),decide_eq_true (by omega)]
 . rw [if_neg a]
   by_cases b:97<=n/\n<=122
   . rw [if_pos b]
     by_cases z:n<=102
     . rw [decide_eq_true (by omega),decide_eq_true (by omega)]
     . rw [decide_eq_false (by omega),decide_eq_false (by omega)]
   . rw [if_neg b]
     by_cases d:65<=n/\n<=90
     . rw [if_pos d]
       by_cases z:n<=70
       . rw [decide_eq_true (by omega),decide_eq_true (by omega)]
       . rw [decide_eq_false (by omega),decide_eq_false (by omega)]
     . rw [if_neg d,decide_eq_false (by omega),decide_eq_false (by omega)]
def h0:List UInt8 -> UInt8
 | []=>0
 | c :: _=>c
theorem aKW    {b : Nat} (hb : b ≤ 36) (l : List UInt8) : hdD b l = isD b (h0 l) := by
  cases l with
  | nil =>
    show false = isD b 0
    unfold isD
    rw [show dv (0 : UInt8).toNat = 36 by decide]
    exact (decide_eq_false (by omega)).symm
  | cons c r => rfl
theorem wG {s:ByteArray}{k:Nat}(h:k<s.size):h0 (s.data.toList.drop k)=s[k]'h:=by rw [bN s h];rfl
theorem aD4 {s:ByteArray}{k:Nat}(h:¬ k<s.size):h0 (s.data.toList.drop k)=0:=by rw [bP s h];rfl
theorem lM (s:ByteArray) (k:Nat) (w:World):Cs 51 #[.string s,vI (k:Int)] w (.int .u8 ((h0 (s.data.toList.drop k)).toNat:Int)):=by
 by_cases h:k<s.size
 . rw [wG h]
   have h1:(k:Int)<(s.size:Int):=by omega
   have h2:(0:Int)<=(k:Int):=by omega
   go_enter Tryz.func51,Tryz.ntmps51
   go_wp2
   go_ret
   exact ⟨rfl,rfl⟩
 . rw [aD4 h]
   have h1:(s.size:Int)<=(k:Int):=by omega
   go_enter Tryz.func51,Tryz.ntmps51
   go_wp2
   go_ret
   exact ⟨rfl,rfl⟩
theorem rE         (c : UInt8) (x : Bool) (w : World) : Calls Tryz.prog 87 #[.int .u8 (c.toNat : Int), .bool x] w fun e w' => e = .returned (.bool (isD (bs x) c)) ∧ w' = w := by
  obtain ⟨n, hn⟩ : ∃ n : Nat, c.toNat = n := ⟨_, rfl⟩
  have e1 := jO      hn
  have e2 := aBr     hn
  have hr : n ≤ 47 ∨ 48 ≤ n ∧ n ≤ 57 ∨ 58 ≤ n ∧ n ≤ 64 ∨ 65 ≤ n ∧ n ≤ 70 ∨ 71 ≤ n ∧ n ≤ 96 ∨ 97 ≤ n ∧ n ≤ 102 ∨ 103 ≤ n := by omega
  rw [hn]
  clear hn
  rcases hr with h | h | h | h | h | h | h
  · have t1 : ¬ (48 : Int) ≤ (n : Int) := by omega
    have t3 : ¬ (97 : Int) ≤ (n : Int) := by omega
    have t5 : ¬ (65 : Int) ≤ (n : Int) := by omega
    cases x with
    | true =>
      rw [show isD (bs true) c = false by rw [show bs true = 16 from rfl, e2]; exact decide_eq_false (by omega)]
      clear e1 e2 h
      go_enter Tryz.func87, Tryz.ntmps87
      go_wp2
      go_ret
      exact ⟨rfl, rfl⟩
    | false =>
      rw [show isD (bs false) c = false by rw [show bs false = 10 from rfl, e1]; exact decide_eq_false (by omega)]
      clear e1 e2 h
      go_enter Tryz.func87, Tryz.ntmps87
      go_wp2
      go_ret
      exact ⟨rfl, rfl⟩
  · have t1 : (48 : Int) ≤ (n : Int) := by omega
    have t2 : (n : Int) ≤ 57 := by omega
    cases x with
    | true =>
      rw [show isD (bs true) c = true by rw [show bs true = 16 from rfl, e2]; exact decide_eq_true (by omega)]
      clear e1 e2 h
      go_enter Tryz.func87, Tryz.ntmps87
      go_wp2
      go_ret
      exact ⟨rfl, rfl⟩
    | false =>
      rw [show isD (bs false) c = true by rw [show bs false = 10 from rfl, e1]; exact decide_eq_true (by omega)]
      clear e1 e2 h
      go_enter Tryz.func87, Tryz.ntmps87
      go_wp2
      go_ret
      exact ⟨rfl, rfl⟩
  · have t1 : (48 : Int) ≤ (n : Int) := by omega
    have t2 : ¬ (n : Int) ≤ 57 := by omega
    have t3 : ¬ (97 : Int) ≤ (n : Int) := by omega
    have t5 : ¬ (65 : Int) ≤ (n : Int) := by omega
    cases x with
    | true =>
      rw [show isD (bs true) c = false by rw [show bs true = 16 from rfl, e2]; exact decide_eq_false (by omega)]
      clear e1 e2 h
      go_enter Tryz.func87, Tryz.ntmps87
      go_wp2
      go_ret
      exact ⟨rfl, rfl⟩
    | false =>
      rw [show isD (bs false) c = false by rw [show bs false = 10 from rfl, e1]; exact decide_eq_false (by omega)]
      clear e1 e2 h
      go_enter Tryz.func87, Tryz.ntmps87
      go_wp2
      go_ret
      exact ⟨rfl, rfl⟩
  · have t1 : (48 : Int) ≤ (n : Int) := by omega
    have t2 : ¬ (n : Int) ≤ 57 := by omega
    have t3 : ¬ (97 : Int) ≤ (n : Int) := by omega
    have t5 : (65 : Int) ≤ (n : Int) := by omega
    have t6 : (n : Int) ≤ 70 := by omega
    cases x with
    | true =>
      rw [show isD (bs true) c = true by rw [show bs true = 16 from rfl, e2]; exact decide_eq_true (by omega)]
      clear e1 e2 h
      go_enter Tryz.func87, Tryz.ntmps87
      go_wp2
      go_ret
      exact ⟨rfl, rfl⟩
    | false =>
      rw [show isD (bs false) c = false by rw [show bs false = 10 from rfl, e1]; exact decide_eq_false (by omega)]
      clear e1 e2 h
      go_enter Tryz.func87, Tryz.ntmps87
      go_wp2
      go_ret
      exact ⟨rfl, rfl⟩
  · have t1 : (48 : Int) ≤ (n : Int) := by omega
    have t2 : ¬ (n : Int) ≤ 57 := by omega
    have t3 : ¬ (97 : Int) ≤ (n : Int) := by omega
    have t5 : (65 : Int) ≤ (n : Int) := by omega
    have t6 : ¬ (n : Int) ≤ 70 := by omega
    cases x with
    | true =>
      rw [show isD (bs true) c = false by rw [show bs true = 16 from rfl, e2]; exact decide_eq_false (by omega)]
      clear e1 e2 h
      go_enter Tryz.func87, Tryz.ntmps87
      go_wp2
      go_ret
      exact ⟨rfl, rfl⟩
    | false =>
      rw [show isD (bs false) c = false by rw [show bs false = 10 from rfl, e1]; exact decide_eq_false (by omega)]
      clear e1 e2 h
      go_enter Tryz.func87, Tryz.ntmps87
      go_wp2
      go_ret
      exact ⟨rfl, rfl⟩
  · have t1 : (48 : Int) ≤ (n : Int) := by omega
    have t2 : ¬ (n : Int) ≤ 57 := by omega
    have t3 : (97 : Int) ≤ (n : Int) := by omega
    have t4 : (n : Int) ≤ 102 := by omega
    have t5 : (65 : Int) ≤ (n : Int) := by omega
    have t6 : ¬ (n : Int) ≤ 70 := by omega
    cases x with
    | true =>
      rw [show isD (bs true) c = true by rw [show bs true = 16 from rfl, e2]; exact decide_eq_true (by omega)]
      clear e1 e2 h
      go_enter Tryz.func87, Tryz.ntmps87
      go_wp2
      go_ret
      exact ⟨rfl, rfl⟩
    | false =>
      rw [show isD (bs false) c = false by rw [show bs false = 10 from rfl, e1]; exact decide_eq_false (by omega)]
      clear e1 e2 h
      go_enter Tryz.func87, Tryz.ntmps87
      go_wp2
      go_ret
      exact ⟨rfl, rfl⟩
  · have t1 : (48 : Int) ≤ (n : Int) := by omega
    have t2 : ¬ (n : Int) ≤ 57 := by omega
    have t3 : (97 : Int) ≤ (n : Int) := by omega
    have t4 : ¬ (n : Int) ≤ 102 := by omega
    have t5 : (65 : Int) ≤ (n : Int) := by omega
    have t6 : ¬ (n : Int) ≤ 70 := by omega
    cases x with
    | true =>
      rw [show isD (bs true) c = false by rw [show bs true = 16 from rfl, e2]; exact decide_eq_false (by omega)]
      clear e1 e2 h
      go_enter Tryz.func87, Tryz.ntmps87
      go_wp2
      go_ret
      exact ⟨rfl, rfl⟩
    | false =>
      rw [show isD (bs false) c = false by rw [show bs false = 10 from rfl, e1]; exact decide_eq_false (by omega)]
      clear e1 e2 h
      go_enter Tryz.func87, Tryz.ntmps87
      go_wp2
      go_ret
      exact ⟨rfl, rfl⟩
theorem lQ (n:Int) (w:World):Cs 134 #[vI n] w (vI (ctI n)):=by
 by_cases a:n < -1099511627776
 . rw [show ctI n = -1099511627776 by unfold ctI;omega]
   have t1:n<=1099511627776:=by omega
   have t2:n <= -1099511627776:=by omega
   have t3:¬ -1099511627776<=n:=by omega
   have t4:¬ 1099511627776<n:=by omega
   have t5:¬ 1099511627776<=n:=by omega
   clear a
   go_enter Tryz.func134,Tryz.ntmps134
   go_wp2
   all_goals
    go_ret
    first | exact ⟨rfl,rfl⟩ | exact ⟨by go_num,rfl⟩
 . by_cases b:n<=1099511627776
   . rw [show ctI n=n by unfold ctI;omega]
     go_enter Tryz.func134,Tryz.ntmps134
     go_wp2
     all_goals
      go_ret
      first | exact ⟨rfl,rfl⟩ | exact ⟨by go_num,rfl⟩
   . rw [show ctI n=1099511627776 by unfold ctI;omega]
     have t1:¬ n<1099511627776:=by omega
     clear a
     go_enter Tryz.func134,Tryz.ntmps134
     go_wp2
     all_goals
      go_ret
      first | exact ⟨rfl,rfl⟩ | exact ⟨by go_num,rfl⟩
theorem rZ (n:Int) (w:World):Cs 86 #[vI n] w (vI (ctI n)):=by
 by_cases a:n < -1099511627776
 . rw [show ctI n = -1099511627776 by unfold ctI;omega]
   have t1:n<=1099511627776:=by omega
   have t2:n <= -1099511627776:=by omega
   have t3:¬ -1099511627776<=n:=by omega
   have t4:¬ 1099511627776<n:=by omega
   have t5:¬ 1099511627776<=n:=by omega
   clear a
   go_enter Tryz.func86,Tryz.ntmps86
   go_wp2
   all_goals
    go_ret
    first | exact ⟨rfl,rfl⟩ | exact ⟨by go_num,rfl⟩
 . by_cases b:n<=1099511627776
   . rw [show ctI n=n by unfold ctI;omega]
     go_enter Tryz.func86,Tryz.ntmps86
     go_wp2
     all_goals
      go_ret
      first | exact ⟨rfl,rfl⟩ | exact ⟨by go_num,rfl⟩
   . rw [show ctI n=1099511627776 by unfold ctI;omega]
     have t1:¬ n<1099511627776:=by omega
     clear a
     go_enter Tryz.func86,Tryz.ntmps86
     go_wp2
     all_goals
      go_ret
      first | exact ⟨rfl,rfl⟩ | exact ⟨by go_num,rfl⟩
end Go.Proofs.YtejgpbhionadbaaGreatDoor
