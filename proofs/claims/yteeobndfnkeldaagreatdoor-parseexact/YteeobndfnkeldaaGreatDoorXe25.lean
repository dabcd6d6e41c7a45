/-
  Holds: UScA.
-/
import Derived.Test.YteeobndfnkeldaaGreatDoorChecked
import Derived.WalkKit
import Derived.Deep.DeepMust
import Derived.Lib.Strings
import Derived.Lib.BufferWrite
import Derived.Deep.OwnRows
import Derived.Deep.RegionHeld3
import Derived.Deep.QuietTactic
import Derived.BigQuiet
import Derived.Test.YteeobndfnkeldaaGreatDoorXe2
set_option maxRecDepth 100000
set_option maxHeartbeats 4000000
namespace Go.Proofs.YteeobndfnkeldaaGreatDoor
open Go.RowKit
theorem sml_nat (c:UInt8):((sml c).toNat:Int)=if 65≤(c.toNat:Int)∧(c.toNat:Int)≤90 then (c.toNat:Int)+32 else (c.toNat:Int):=by
 unfold sml
 by_cases h:65≤c.toNat∧c.toNat≤90
 · rw [if_pos h,if_pos (by omega),UInt8.toNat_add,show (32:UInt8).toNat=32 from rfl];omega
 · rw [if_neg h,if_neg (by omega)]
theorem small_any (c:UInt8) (w:World):Cs 155 #[.int .u8 (c.toNat:Int)] w (.int .u8 ((sml c).toNat:Int)):=by
 have hc:=UInt8.toNat_lt c
 rw [sml_nat]
 obtain ⟨n,hn⟩:∃ n:Nat,c.toNat=n:=⟨_,rfl⟩
 rw [hn] at hc ⊢
 clear hn
 by_cases a:65≤(n:Int)
 · by_cases b:(n:Int)≤90
   · rw [if_pos ⟨a,b⟩]
     go_enter Tryz.func155,Tryz.ntmps155
     go_wp2
     go_ret
     exact ⟨by go_num,rfl⟩
   · rw [if_neg (fun z=>b z.2)]
     go_enter Tryz.func155,Tryz.ntmps155
     go_wp2
     go_ret
     exact ⟨rfl,rfl⟩
 · rw [if_neg (fun z=>a z.1)]
   go_enter Tryz.func155,Tryz.ntmps155
   go_wp2
   go_ret
   exact ⟨rfl,rfl⟩
theorem wdB_cons {d c:UInt8}{t r:List UInt8}:wdB (d :: t) (c :: r)=((sml c == d) && wdB t r):=rfl
theorem wdB_short : ∀ (t l : List UInt8), l.length < t.length → wdB t l = false
  | [], _, h => absurd h (by simp)
  | _ :: _, [], _ => rfl
  | d :: t, c :: r, h => by
    rw [wdB_cons, wdB_short t r (by simpa using h), Bool.and_false]
theorem begins_any (s t:ByteArray) (hs:s.size≤1048600) (w:World):Cb 127 #[.string s,.string t] w (.bool (wdB t.data.toList s.data.toList)):=by
 obtain ⟨R,hR⟩:∃ R,R=wdB t.data.toList s.data.toList:=⟨_,rfl⟩
 rw [← hR]
 by_cases h:s.size<t.size
 · have h':(s.size:Int)<(t.size:Int):=by omega
   have e:R=false:=by rw [hR];exact wdB_short _ _ h
   subst e
   clear hR h
   go_enter Tryz.func127,Tryz.ntmps127
   go_wp2
   go_ret
   exact ⟨rfl,Below.refl _ _⟩
 · have h':¬ (s.size:Int)<(t.size:Int):=by omega
   have HH:Hid (¬ s.size<t.size):=h
   have HR:Hid (R=wdB t.data.toList s.data.toList):=hR
   clear hR h
   go_enter Tryz.func127,Tryz.ntmps127
   go_wp2
   go_loopw [13] (fun i wr=>∃ k:Nat,k≤t.size∧i=vI (k:Int)∧Hid (R=wdB (t.data.toList.drop k) (s.data.toList.drop k)∧Bl w wr)) (fun i _=>t.size - (intOf i).toNat)
   case atStart=>exact ⟨0,Nat.zero_le _,rfl,HR.out,Below.refl _ _⟩
   case round =>
    obtain ⟨k,hk,rfl,HK⟩:=hrel
    by_cases hlt:k<t.size
    · have hls:k<s.size:=by have:=HH.out;omega
      have i1:(k:Int)<(t.size:Int):=by omega
      have i2:(k:Int)<(s.size:Int):=by omega
      have i0:(0:Int)≤(k:Int):=by omega
      have SM:=fun W=>small_any (s[k]'hls) W
      have HW:Hid (wdB (t.data.toList.drop k) (s.data.toList.drop k)=((sml (s[k]'hls) == t[k]'hlt) && wdB (t.data.toList.drop (k+1)) (s.data.toList.drop (k+1)))):=by
       show _=_
       rw [drop_at t hlt,drop_at s hls];rfl
      by_cases q:sml (s[k]'hls)=t[k]'hlt
      · rw [q] at SM
        have HK2:Hid (R=wdB (t.data.toList.drop (k+1)) (s.data.toList.drop (k+1))∧Bl w wr):=⟨by rw [HK.out.1,HW.out,q];simp,HK.out.2⟩
        clear q HW HK
        go_wp2
        go_region_held3 (fun _=>True) (trivial) (first | (go_at_call 155;refine (SM _).mono ?_;rintro e w2 ⟨rfl,rfl⟩))
        all_goals
         go_wp2
         go_roundw
         case rel=>exact ⟨k+1,by omega,by go_num,HK2.out.1,HK2.out.2.drew⟩
         case measure=>simp [intOf];omega
      · have q2:(((sml (s[k]'hls)).toNat:Int) != ((t[k]'hlt).toNat:Int))=true:=bne_iff_ne.mpr fun y=>q (UInt8.toNat_inj.mp (Int.ofNat_inj.mp y))
        have HK2:Hid (R=false∧Bl w wr):=⟨by rw [HK.out.1,HW.out,beq_eq_false_iff_ne.mpr q,Bool.false_and],HK.out.2⟩
        generalize ((sml (s[k]'hls)).toNat:Int)=x at *
        clear q HW HK
        go_wp2
        go_region_held3 (fun _=>True) (trivial) (first | (go_at_call 155;refine (SM _).mono ?_;rintro e w2 ⟨rfl,rfl⟩))
        all_goals
         go_wp2
         go_ret
         exact ⟨by rw [HK2.out.1];rfl,HK2.out.2.drew⟩
    · have i1:¬ (k:Int)<(t.size:Int):=by omega
      have HK2:Hid (R=true):=by
       show _=_
       rw [HK.out.1,drop_end t hlt];rfl
      go_wp2
      go_ret
      exact ⟨by rw [HK2.out];rfl,HK.out.2⟩
theorem isD_ten {c:UInt8}{n:Nat}(h:c.toNat=n):isD 10 c=decide (48≤n∧n≤57):=by
 unfold isD dv
 rw [h]
 by_cases a:48≤n∧n≤57
 · rw [if_pos a,decide_eq_true a,decide_eq_true (by omega)]
 · rw [if_neg a,decide_eq_false a]
   split
   · exact decide_eq_false (by omega)
   · split
     · exact decide_eq_false (by omega)
     · rfl
theorem bound_any (n:Int) (w:World):Cs 163 #[vI n] w (vI (ctI n)):=by
 by_cases a:n < -1099511627776
 · rw [show ctI n = -1099511627776 by unfold ctI;omega]
   have t1:n≤1099511627776:=by omega
   have t2:n ≤ -1099511627776:=by omega
   have t3:¬ -1099511627776≤n:=by omega
   have t4:¬ 1099511627776<n:=by omega
   have t5:¬ 1099511627776≤n:=by omega
   clear a
   go_enter Tryz.func163,Tryz.ntmps163
   go_wp2
   all_goals
    go_ret
    first | exact ⟨rfl,rfl⟩ | exact ⟨by go_num,rfl⟩
 · by_cases b:n≤1099511627776
   · rw [show ctI n=n by unfold ctI;omega]
     go_enter Tryz.func163,Tryz.ntmps163
     go_wp2
     all_goals
      go_ret
      first | exact ⟨rfl,rfl⟩ | exact ⟨by go_num,rfl⟩
   · rw [show ctI n=1099511627776 by unfold ctI;omega]
     have t1:¬ n<1099511627776:=by omega
     clear a
     go_enter Tryz.func163,Tryz.ntmps163
     go_wp2
     all_goals
      go_ret
      first | exact ⟨rfl,rfl⟩ | exact ⟨by go_num,rfl⟩
end Go.Proofs.YteeobndfnkeldaaGreatDoor
