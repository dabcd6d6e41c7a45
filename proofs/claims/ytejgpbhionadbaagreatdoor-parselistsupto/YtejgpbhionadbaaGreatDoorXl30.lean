/-
  Holds: UScB.
-/
import Derived.Test.YtejgpbhionadbaaGreatDoorChecked
import Derived.WalkKit
import Derived.Deep.DeepMust
import Derived.Lib.Strings
import Derived.Lib.BufferWrite
import Derived.Deep.OwnRows
import Derived.Deep.RegionHeld3
import Derived.Deep.QuietTactic
import Derived.BigQuiet
import Derived.Test.YtejgpbhionadbaaGreatDoorXl1
import Derived.Test.YtejgpbhionadbaaGreatDoorXl25
import Derived.Test.YtejgpbhionadbaaGreatDoorXl28
set_option maxRecDepth 100000
set_option maxHeartbeats 4000000
namespace Go.Proofs.YtejgpbhionadbaaGreatDoor
open Go.RowKit
def txV (l:List UInt8):Value:=.agg #[.string (sB (l.take (sgA l))),.string (sB (l.drop (sgA l)))]
theorem oH {c:UInt8}{r:List UInt8}(h:c=43 \/ c=45):sgA (c :: r)=1:=by show (if _ then _ else _)=_;rw [if_pos h]
theorem aAy {c:UInt8}{r:List UInt8}(h:¬ (c=43 \/ c=45)):sgA (c :: r)=0:=by show (if _ then _ else _)=_;rw [if_neg h]
theorem dU {c n:UInt8}(h:c ≠ n):((c.toNat:Int) == (n.toNat:Int))=false:=beq_eq_false_iff_ne.mpr fun y=>h (UInt8.toNat_inj.1 (Int.ofNat_inj.1 y))
theorem nB           (l : List UInt8) (hl : l.length ≤ 140737488351256) (w : World) : Calls Tryz.prog 68 #[.string (sB l)] w fun e w' => e = .returned (txV l) ∧ Below w.heap.size w w' := by
  cases l with
  | nil =>
    rw [show txV [] = .agg #[.string ⟨#[]⟩, .string ⟨#[]⟩] from rfl, show sB [] = ⟨#[]⟩ from rfl]
    go_enter Tryz.func68, Tryz.ntmps68
    go_wp2
    refine bodyPost_ret (v := .agg #[.string ⟨#[]⟩, .string ⟨#[]⟩]) (by simp [results, Tryz.results68, go_sem]) rfl ⟨rfl, ?_⟩
    first | exact (Below.refl _ _).alloc (Nat.le_refl _) _ | exact ((Below.refl _ _).alloc (Nat.le_refl _) _).setCell (Nat.le_refl _) _
  | cons c r =>
    have hz : (sB (c :: r)).size = r.length + 1 := rfl
    have hp : 0 < (sB (c :: r)).size := by omega
    have hne := aI          hp
    have h00 : (sB (c :: r))[0]'hp = c := rfl
    have hc' : ((((sB (c :: r))[0]'hp).toNat : Nat) : Int) = (c.toNat : Int) := by rw [h00]
    have x1 : (sB (c :: r)).extract 0 1 = sB [c] := eO    _ _
    have x2 : (sB (c :: r)).extract 1 (sB (c :: r)).size = sB r := aJ      _ _
    have hsz : 1 ≤ (sB (c :: r)).size := by omega
    have hbig : (sB (c :: r)).size ≤ 140737488351256 := hl
    clear hl
    by_cases h : c = 43 ∨ c = 45
    · have HV : Hid (txV (c :: r) = .agg #[.string (sB [c]), .string (sB r)]) := by
        show _ = _
        unfold txV; rw [oH      h]; rfl
      rw [HV.out]
      rcases h with h | h
      · have hc2 : (c.toNat : Int) = 43 := by rw [h]; rfl
        rw [hc2] at hc'
        generalize sB (c :: r) = s at *
        generalize sB [c] = s1 at *
        generalize sB r = s2 at *
        clear h00 hc2 h HV hz
        go_enter Tryz.func68, Tryz.ntmps68
        go_wp2
        go_region
        go_wp2
        refine bodyPost_ret (v := .agg #[.string s1, .string s2]) (by simp [results, Tryz.results68, go_sem]) rfl ⟨rfl, ?_⟩
        first | exact ((Below.refl _ _).alloc (Nat.le_refl _) _).drew | exact (((Below.refl _ _).alloc (Nat.le_refl _) _).drew).setCell (Nat.le_refl _) _ | exact ((((Below.refl _ _).alloc (Nat.le_refl _) _).drew.setCell (Nat.le_refl _) _).setCell (Nat.le_refl _) _)
      · have hc2 : (c.toNat : Int) = 45 := by rw [h]; rfl
        rw [hc2] at hc'
        generalize sB (c :: r) = s at *
        generalize sB [c] = s1 at *
        generalize sB r = s2 at *
        clear h00 hc2 h HV hz
        go_enter Tryz.func68, Tryz.ntmps68
        go_wp2
        go_region
        go_wp2
        refine bodyPost_ret (v := .agg #[.string s1, .string s2]) (by simp [results, Tryz.results68, go_sem]) rfl ⟨rfl, ?_⟩
        first | exact ((Below.refl _ _).alloc (Nat.le_refl _) _).drew | exact (((Below.refl _ _).alloc (Nat.le_refl _) _).drew).setCell (Nat.le_refl _) _ | exact ((((Below.refl _ _).alloc (Nat.le_refl _) _).drew.setCell (Nat.le_refl _) _).setCell (Nat.le_refl _) _)
    · have HV : Hid (txV (c :: r) = .agg #[.string ⟨#[]⟩, .string (sB (c :: r))]) := by
        show _ = _
        unfold txV; rw [aAy    h]; rfl
      rw [HV.out]
      have n1 := dU    (c := c) (n := 43) (fun y => h (Or.inl y))
      have n2 := dU    (c := c) (n := 45) (fun y => h (Or.inr y))
      rw [← hc'] at n1 n2
      have n1' : ((((sB (c :: r))[0]'hp).toNat : Int) == 43) = false := n1
      have n2' : ((((sB (c :: r))[0]'hp).toNat : Int) == 45) = false := n2
      clear h00 h HV hz n1 n2 hc' x1 x2
      generalize sB (c :: r) = s at *
      go_enter Tryz.func68, Tryz.ntmps68
      go_wp2
      refine bodyPost_ret (v := .agg #[.string ⟨#[]⟩, .string s]) (by simp [results, Tryz.results68, go_sem]) rfl ⟨rfl, ?_⟩
      first | exact (Below.refl _ _).alloc (Nat.le_refl _) _ | exact ((Below.refl _ _).alloc (Nat.le_refl _) _).setCell (Nat.le_refl _) _
theorem aDv (a d:Nat) (c:UInt8) (h:c.toNat=d+48):cns a c=min (a * 10+d) 1099511627776:=by unfold cns;rw [h,Nat.add_sub_cancel]
theorem aDw (s:ByteArray) (hs:s.size<=140737488351256) (hd:∀ c ∈ s.data.toList,isD 10 c=true) (w:World):Cs 131 #[.string s] w (vI (cnt 0 s.data.toList:Int)):=by
 obtain ⟨R,hR⟩:∃ R,R=cnt 0 s.data.toList:=⟨_,rfl⟩
 rw [<- hR]
 have HR:Hid (R=cnt 0 s.data.toList/\∀ c ∈ s.data.toList,isD 10 c=true):=⟨hR,hd⟩
 clear hR hd
 go_enter Tryz.func131,Tryz.ntmps131
 go_wp2
 go_loop [3,7] (fun n i=>∃ a k:Nat,k<=s.size/\a<=1099511627776/\n=vI (a:Int)/\i=vI (k:Int)/\Hid (R=cnt a (s.data.toList.drop k))) (fun _ i=>s.size - (intOf i).toNat)
 case atStart=>exact ⟨0,0,Nat.zero_le _,Nat.zero_le _,rfl,rfl,HR.out.1⟩
 case round =>
  obtain ⟨a,k,hk,ha,rfl,rfl,HK⟩:=hrel
  by_cases hlt:k<s.size
  . have i1:(k:Int)<(s.size:Int):=by omega
    have i0:(0:Int)<=(k:Int):=by omega
    have hd:=bN s hlt
    have hm:isD 10 (s[k]'hlt)=true:=HR.out.2 _ (by
     have:s[k]'hlt ∈ s.data.toList.drop k:=by rw [hd];simp
     exact List.mem_of_mem_drop this)
    rw [jO rfl] at hm
    have hm2:=of_decide_eq_true hm
    obtain ⟨d,hdd⟩:∃ d,(s[k]'hlt).toNat=d+48:=⟨(s[k]'hlt).toNat - 48,by omega⟩
    have HK1:Hid (R=cnt (min (a * 10+d) 1099511627776) (s.data.toList.drop (k+1))):=by
     show _=_
     rw [HK.out,hd,oZ,aDv a d _ hdd]
    rw [hdd] at hm2
    have hx:(((s[k]'hlt).toNat:Nat):Int)=(d:Int)+48:=by rw [hdd];omega
    have hd9:d<=9:=by omega
    have w1:IntKind.u8.wrap ((d:Int)+48 - 48)=(d:Int):=by
     unfold IntKind.wrap
     simp [IntKind.bits,IntKind.signed]
     omega
    clear hd hm hm2 hdd
    by_cases b:a * 10+d<=1099511627776
    . have b':(a:Int) * 10+(d:Int)<=1099511627776:=by omega
      have HK2:Hid (R=cnt (a * 10+d) (s.data.toList.drop (k+1))):=by
       show _=_
       rw [HK1.out,Nat.min_eq_left b]
      clear HK1 HK b
      go_wp2
      all_goals
       go_round
       case rel=>exact ⟨a * 10+d,k+1,by omega,by omega,by go_num,by go_num,HK2⟩
       case measure=>simp [intOf];omega
    . have b':¬ (a:Int) * 10+(d:Int)<=1099511627776:=by omega
      have b3:¬ (a:Int) * 10+(d:Int)<1099511627776:=by omega
      have b2:(1099511627776:Int)<(a:Int) * 10+(d:Int):=by omega
      have HK2:Hid (R=cnt 1099511627776 (s.data.toList.drop (k+1))):=by
       show _=_
       rw [HK1.out,Nat.min_eq_right (by omega)]
      clear HK1 HK b
      go_wp2
      all_goals
       go_round
       case rel=>exact ⟨1099511627776,k+1,by omega,by omega,by go_num,by go_num,HK2⟩
       case measure=>simp [intOf];omega
  . have i1:¬ (k:Int)<(s.size:Int):=by omega
    have HK2:Hid (R=a):=by
     show _=_
     rw [HK.out,bP s hlt,rW]
    go_wp2
    go_ret
    exact ⟨by rw [HK2.out];rfl,rfl⟩
theorem aCw (s:ByteArray) (hs:s.size<=140737488351232) (hd:∀ c ∈ s.data.toList,isD 10 c=true) (w:World):Cs 84 #[.string s] w (vI (cnt 0 s.data.toList:Int)):=by
 obtain ⟨R,hR⟩:∃ R,R=cnt 0 s.data.toList:=⟨_,rfl⟩
 rw [<- hR]
 have HR:Hid (R=cnt 0 s.data.toList/\∀ c ∈ s.data.toList,isD 10 c=true):=⟨hR,hd⟩
 clear hR hd
 go_enter Tryz.func84,Tryz.ntmps84
 go_wp2
 go_loop [3,4] (fun n i=>∃ a k:Nat,k<=s.size/\a<=1099511627776/\n=vI (a:Int)/\i=vI (k:Int)/\Hid (R=cnt a (s.data.toList.drop k))) (fun _ i=>s.size - (intOf i).toNat)
 case atStart=>exact ⟨0,0,Nat.zero_le _,Nat.zero_le _,rfl,rfl,HR.out.1⟩
 case round =>
  obtain ⟨a,k,hk,ha,rfl,rfl,HK⟩:=hrel
  by_cases hlt:k<s.size
  . have i1:(k:Int)<(s.size:Int):=by omega
    have i0:(0:Int)<=(k:Int):=by omega
    have hd:=bN s hlt
    have hm:isD 10 (s[k]'hlt)=true:=HR.out.2 _ (by
     have:s[k]'hlt ∈ s.data.toList.drop k:=by rw [hd];simp
     exact List.mem_of_mem_drop this)
    rw [jO rfl] at hm
    have hm2:=of_decide_eq_true hm
    obtain ⟨d,hdd⟩:∃ d,(s[k]'hlt).toNat=d+48:=⟨(s[k]'hlt).toNat - 48,by omega⟩
    have HK1:Hid (R=cnt (min (a * 10+d) 1099511627776) (s.data.toList.drop (k+1))):=by
     show _=_
     rw [HK.out,hd,oZ,aDv a d _ hdd]
    rw [hdd] at hm2
    have hx:(((s[k]'hlt).toNat:Nat):Int)=(d:Int)+48:=by rw [hdd];omega
    have hd9:d<=9:=by omega
    have w1:IntKind.u8.wrap ((d:Int)+48 - 48)=(d:Int):=by
     unfold IntKind.wrap
     simp [IntKind.bits,IntKind.signed]
     omega
    clear hd hm hm2 hdd
    by_cases b:a * 10+d<=1099511627776
    . have b':(a:Int) * 10+(d:Int)<=1099511627776:=by omega
      have HK2:Hid (R=cnt (a * 10+d) (s.data.toList.drop (k+1))):=by
       show _=_
       rw [HK1.out,Nat.min_eq_left b]
      clear HK1 HK b
      go_wp2
      all_goals
       go_round
       case rel=>exact ⟨a * 10+d,k+1,by omega,by omega,by go_num,by go_num,HK2⟩
       case measure=>simp [intOf];omega
    . have b':¬ (a:Int) * 10+(d:Int)<=1099511627776:=by omega
      have b3:¬ (a:Int) * 10+(d:Int)<1099511627776:=by omega
      have b2:(1099511627776:Int)<(a:Int) * 10+(d:Int):=by omega
      have HK2:Hid (R=cnt 1099511627776 (s.data.toList.drop (k+1))):=by
       show _=_
       rw [HK1.out,Nat.min_eq_right (by omega)]
      clear HK1 HK b
      go_wp2
      all_goals
       go_round
       case rel=>exact ⟨1099511627776,k+1,by omega,by omega,by go_num,by go_num,HK2⟩
       case measure=>simp [intOf];omega
  . have i1:¬ (k:Int)<(s.size:Int):=by omega
    have HK2:Hid (R=a):=by
     show _=_
     rw [HK.out,bP s hlt,rW]
    go_wp2
    go_ret
    exact ⟨by rw [HK2.out];rfl,rfl⟩
theorem lC (s:ByteArray) (hs:s.size<=140737488351232) (w:World):Cs 85 #[.string s] w (vI (nz s.data.toList:Int)):=by
 obtain ⟨R,hR⟩:∃ R,R=nz s.data.toList:=⟨_,rfl⟩
 rw [<- hR]
 have HR:Hid (R=nz s.data.toList):=hR
 clear hR
 go_enter Tryz.func85,Tryz.ntmps85
 go_wp2
 go_loop [3] (fun i=>∃ k:Nat,k<=s.size/\i=vI (k:Int)/\Hid (R=k+nz (s.data.toList.drop k))) (fun i=>s.size - (intOf i).toNat)
 case atStart=>exact ⟨0,Nat.zero_le _,rfl,by rw [List.drop_zero,Nat.zero_add];exact HR.out⟩
 case round =>
  obtain ⟨k,hk,rfl,HK⟩:=hrel
  by_cases hlt:k<s.size
  . have i1:(k:Int)<(s.size:Int):=by omega
    have i0:(0:Int)<=(k:Int):=by omega
    by_cases q:s[k]'hlt=48
    . have hx:(((s[k]'hlt).toNat:Nat):Int)=48:=by rw [q];rfl
      have HK2:Hid (R=k+1+nz (s.data.toList.drop (k+1))):=by
       show _=_
       rw [HK.out,bN s hlt,q,iH];omega
      clear q HK
      go_wp2
      go_round
      case rel=>exact ⟨k+1,by omega,by go_num,HK2⟩
      case measure=>simp [intOf];omega
    . have hx:((((s[k]'hlt).toNat:Nat):Int) == 48)=false:=dU q
      have HK2:Hid (R=k):=by
       show _=_
       rw [HK.out,bN s hlt,iS q];omega
      clear q HK
      go_wp2
      go_ret
      exact ⟨by rw [HK2.out];rfl,rfl⟩
  . have i1:¬ (k:Int)<(s.size:Int):=by omega
    have HK2:Hid (R=k):=by
     show _=_
     rw [HK.out,bP s hlt];rfl
    go_wp2
    go_ret
    exact ⟨by rw [HK2.out];rfl,rfl⟩
theorem aFw (s t:ByteArray) (j:Nat) (hs:s.size<=140737488351232) (ht:t.size<=8) (h00:0<t.size) (hj:j<=1) (w:World):Cb 52 #[.string s,vI (j:Int),.string t] w (.bool (wdB t.data.toList (s.data.toList.drop j))):=by
 obtain ⟨R,hR⟩:∃ R,R=wdB t.data.toList (s.data.toList.drop j):=⟨_,rfl⟩
 rw [<- hR]
 by_cases h:s.size<j+t.size
 . have h':(s.size:Int)<(j:Int)+(t.size:Int):=by omega
   have e:R=false:=by
    rw [hR]
    refine nL _ _ ?_
    rw [List.length_drop,Array.length_toList,Array.length_toList]
    show s.size - j<t.size
    omega
   subst e
   clear hR h
   go_enter Tryz.func52,Tryz.ntmps52
   go_wp2
   go_ret
   exact ⟨rfl,Below.refl _ _⟩
 . have h':¬ (s.size:Int)<(j:Int)+(t.size:Int):=by omega
   have HH:Hid (¬ s.size<j+t.size):=h
   have HR:Hid (R=wdB t.data.toList (s.data.toList.drop j)):=hR
   clear hR h
   go_enter Tryz.func52,Tryz.ntmps52
   go_wp2
   go_loopw [7] (fun i wr=>∃ k:Nat,k<=t.size/\i=vI (k:Int)/\Hid (R=wdB (t.data.toList.drop k) (s.data.toList.drop (j+k))/\Bl w wr)) (fun i _=>t.size - (intOf i).toNat)
   case atStart=>exact ⟨0,Nat.zero_le _,rfl,HR.out,Below.refl _ _⟩
   case round =>
    obtain ⟨k,hk,rfl,HK⟩:=hrel
    by_cases hlt:k<t.size
    . have hls:j+k<s.size:=by have:=HH.out;omega
      have i1:(k:Int)<(t.size:Int):=by omega
      have i2:(j:Int)+(k:Int)<(s.size:Int):=by omega
      have i0:(0:Int)<=(k:Int):=by omega
      have i3:(0:Int)<=(j:Int)+(k:Int):=by omega
      have i4:((j:Int)+(k:Int)).toNat=j+k:=by omega
      have wjk:IntKind.i64.wrap ((j:Int)+(k:Int))=(j:Int)+(k:Int):=by
       unfold IntKind.wrap
       simp [IntKind.bits,IntKind.signed]
       omega
      have SM:=fun W=>dJ (s[j+k]'hls) W
      have HW:Hid (wdB (t.data.toList.drop k) (s.data.toList.drop (j+k))=((sml (s[j+k]'hls) == t[k]'hlt) && wdB (t.data.toList.drop (k+1)) (s.data.toList.drop (j+(k+1))))):=by
       show _=_
       rw [bN t hlt,bN s hls];rfl
      by_cases q:sml (s[j+k]'hls)=t[k]'hlt
      . rw [q] at SM
        have HK2:Hid (R=wdB (t.data.toList.drop (k+1)) (s.data.toList.drop (j+(k+1)))/\Bl w wr):=⟨by rw [HK.out.1,HW.out,q];simp,HK.out.2⟩
        clear q HW HK
        go_wp2
        go_region_held3 (fun _=>True) (trivial) (first | (go_at_call 53;refine (SM _).mono ?_;rintro e w2 ⟨rfl,rfl⟩))
        all_goals
         go_wp2
         go_roundw
         case rel=>exact ⟨k+1,by omega,by go_num,HK2.out.1,HK2.out.2.drew⟩
         case measure=>simp [intOf];omega
      . have q2:(((sml (s[j+k]'hls)).toNat:Int) != ((t[k]'hlt).toNat:Int))=true:=bne_iff_ne.mpr fun y=>q (UInt8.toNat_inj.mp (Int.ofNat_inj.mp y))
        have HK2:Hid (R=false/\Bl w wr):=⟨by rw [HK.out.1,HW.out,beq_eq_false_iff_ne.mpr q,Bool.false_and],HK.out.2⟩
        generalize ((sml (s[j+k]'hls)).toNat:Int)=x at *
        clear q HW HK
        go_wp2
        go_region_held3 (fun _=>True) (trivial) (first | (go_at_call 53;refine (SM _).mono ?_;rintro e w2 ⟨rfl,rfl⟩))
        all_goals
         go_wp2
         go_ret
         exact ⟨by rw [HK2.out.1];rfl,HK2.out.2.drew⟩
    . have i1:¬ (k:Int)<(t.size:Int):=by omega
      have HK2:Hid (R=true):=by
       show _=_
       rw [HK.out.1,bP t hlt];rfl
      go_wp2
      go_ret
      exact ⟨by rw [HK2.out];rfl,HK.out.2⟩
def bgn (c:UInt8) (l:List UInt8):Bool:=decide (hdC l=c.toNat)
theorem aKn (c x:UInt8) (r:List UInt8):bgn c (x :: r)=decide (x=c):=by
 unfold bgn
 by_cases h:x=c
 . rw [decide_eq_true h];exact decide_eq_true (by rw [h];rfl)
 . rw [decide_eq_false h];exact decide_eq_false (fun z=>h (UInt8.toNat_inj.1 z))
theorem aLk (x c:UInt8):((sB [x]).toList == (sB [c]).toList)=decide (x=c):=by
 rw [dD,dD,bR,bR]
 by_cases h:x=c
 . rw [decide_eq_true h,h];simp
 . rw [decide_eq_false h];simp [h]
theorem jP             (l : List UInt8) (hl : l.length ≤ 140737488351256) (c : UInt8) (w : World) : Calls Tryz.prog 175 #[.string (sB l), .string (sB [c])] w fun e w' => e = .returned (.bool (bgn c l)) ∧ w' = w := by
  have hz1 : (sB [c]).size = 1 := rfl
  cases l with
  | nil =>
    rw [show bgn c [] = false from decide_eq_false (fun z => by have := UInt8.toNat_lt c; have z' : (256 : Nat) = c.toNat := z; omega)]
    have hz0 : (sB []).size = 0 := rfl
    generalize sB [] = s at *
    generalize sB [c] = t at *
    go_enter Tryz.func175, Tryz.ntmps175
    go_wp2
    go_ret
    exact ⟨rfl, rfl⟩
  | cons x r =>
    have hz0 : (1 : Int) ≤ ((sB (x :: r)).size : Int) := by rw [aA     ]; simp; omega
    have hz2 : (sB (x :: r)).size ≤ 140737488351256 := hl
    have x1 : (sB (x :: r)).extract 0 1 = sB [x] := eO    _ _
    have e1 := aLk    x c
    rw [aKn   ]
    generalize decide (x = c) = B at *
    generalize sB (x :: r) = s at *
    generalize sB [c] = t at *
    generalize sB [x] = u at *
    clear hl
    go_enter Tryz.func175, Tryz.ntmps175
    go_wp2
    go_ret
    exact ⟨rfl, rfl⟩
theorem vW (l:List UInt8) (hl:l.length<=140737488351256) (c:UInt8) (w:World):Cs 127 #[.string (sB l),.string (sB [c])] w (.bool (bgn c l)):=by
 have L:=fun W=>jP l hl c W
 generalize bgn c l=B at *
 go_enter Tryz.func127,Tryz.ntmps127
 go_wp2_with fail
 refine (L _).mono ?_
 rintro e w ⟨rfl,rfl⟩
 go_wp2
 go_ret
 exact ⟨rfl,rfl⟩
def cpV (c:UInt8) (l:List UInt8):Value:=match bgn c l with
 | true=>.tuple #[.string (sB (l.drop 1)),.bool true]
 | false=>.tuple #[.string (sB l),.bool false]
theorem aAW         (l : List UInt8) (hl : l.length ≤ 140737488351256) (c : UInt8) (w : World) : Calls Tryz.prog 178 #[.string (sB l), .string (sB [c])] w fun e w' => e = .returned (cpV c l) ∧ w' = w := by
  have L := fun W => jP             l hl c W
  have hz1 : (sB [c]).size = 1 := rfl
  unfold cpV
  cases q : bgn c l with
  | true =>
    rw [q] at L
    have hz0 : (1 : Int) ≤ ((sB l).size : Int) := by
      cases l with
      | nil => rw [show bgn c [] = false from decide_eq_false (fun z => by have := UInt8.toNat_lt c; have z' : (256 : Nat) = c.toNat := z; omega)] at q; cases q
      | cons x r => rw [aA     ]; simp; omega
    have hz2 : (sB l).size ≤ 140737488351256 := hl
    have x1 : (sB l).extract 1 (sB l).size = sB (l.drop 1) := aJ      _ _
    generalize sB (l.drop 1) = u at *
    generalize sB l = s at *
    generalize sB [c] = t at *
    clear hl q
    show Calls _ _ _ _ fun e w' => e = .returned (.tuple #[.string u, .bool true]) ∧ w' = w
    go_enter Tryz.func178, Tryz.ntmps178
    go_wp2_with fail
    refine (L _).mono ?_
    rintro e w ⟨rfl, rfl⟩
    go_wp2
    go_ret2
    exact ⟨rfl, rfl⟩
  | false =>
    rw [q] at L
    show Calls _ _ _ _ fun e w' => e = .returned (.tuple #[.string (sB l), .bool false]) ∧ w' = w
    generalize sB l = s at *
    generalize sB [c] = t at *
    clear hl q
    go_enter Tryz.func178, Tryz.ntmps178
    go_wp2_with fail
    refine (L _).mono ?_
    rintro e w ⟨rfl, rfl⟩
    go_wp2
    go_ret2
    exact ⟨rfl, rfl⟩
theorem vM            (l : List UInt8) (hl : l.length ≤ 140737488351256) (c : UInt8) (w : World) : Calls Tryz.prog 130 #[.string (sB l), .string (sB [c])] w fun e w' => e = .returned (cpV c l) ∧ w' = w := by
  have L := fun W => aAW         l hl c W
  unfold cpV at *
  cases q : bgn c l with
  | true =>
    rw [q] at L
    have L2 : ∀ W, Calls Tryz.prog 178 #[.string (sB l), .string (sB [c])] W fun e w' => e = .returned (.tuple #[.string (sB (l.drop 1)), .bool true]) ∧ w' = W := L
    clear L
    generalize sB (l.drop 1) = u at *
    show Calls _ _ _ _ fun e w' => e = .returned (.tuple #[.string u, .bool true]) ∧ w' = w
    go_enter Tryz.func130, Tryz.ntmps130
    go_wp2_with fail
    refine (L2 _).mono ?_
    rintro e w ⟨rfl, rfl⟩
    go_wp2
    go_ret2
    exact ⟨rfl, rfl⟩
  | false =>
    rw [q] at L
    show Calls _ _ _ _ fun e w' => e = .returned (.tuple #[.string (sB l), .bool false]) ∧ w' = w
    have L2 : ∀ W, Calls Tryz.prog 178 #[.string (sB l), .string (sB [c])] W fun e w' => e = .returned (.tuple #[.string (sB l), .bool false]) ∧ w' = W := L
    clear L
    go_enter Tryz.func130, Tryz.ntmps130
    go_wp2_with fail
    refine (L2 _).mono ?_
    rintro e w ⟨rfl, rfl⟩
    go_wp2
    go_ret2
    exact ⟨rfl, rfl⟩
theorem aHx {b:Nat}(hb:b<=36) {l:List UInt8}{n:Nat}(hn:n<l.length) (h:l[n]'hn=95):rch b true (l.drop n)=if hdn b (l.drop (n+1))=0 then 0 else 1+hdn b (l.drop (n+1))+rch b true (l.drop (n+(1+hdn b (l.drop (n+1))))):=by
 rw [List.drop_eq_getElem_cons hn,h]
 by_cases z:hdn b (l.drop (n+1))=0
 . rw [if_pos z]
   refine cR (jN b hb) (fun y=>?_)
   have:=sJ.1 y.2.2
   omega
 . rw [if_neg z,fF (jN b hb) rfl rfl (sJ.2 (by omega)),sR _ _ (by omega),List.drop_drop]
   have:n+1+hdn b (l.drop (n+1))=n+(1+hdn b (l.drop (n+1))):=by omega
   rw [this];omega
theorem aAr {b:Nat}{l:List UInt8}{n:Nat}(hd:hdD b (l.drop n)=false) (h:∀ hn:n<l.length,l[n]'hn ≠ 95):rch b true (l.drop n)=0:=by
 rcases Nat.lt_or_ge n l.length with q | q
 . rw [List.drop_eq_getElem_cons q] at hd ⊢
   exact cR hd (fun y=>h q y.1)
 . rw [List.drop_eq_nil_of_le q];rfl
theorem oG (l:List UInt8) (hl:l.length<=140737488351256) (b:Nat) (h2:2<=b) (hb:b<=36) (w:World):Cs 128 #[.string (sB l),vI (b:Int)] w (vI (rch b false l:Int)):=by
 have H:=fun m W=>aGC (sB (l.drop m)) (by rw [aA,List.length_drop];omega) b h2 hb W
 have H0:∀ W,Cs 176 #[.string (sB l),vI (b:Int)] W (.tuple #[vI (hdn b l:Int),.nilIface]):=H 0
 have HX:Hid (b<=36/\∀ m,(sB l).extract m (sB l).size=sB (l.drop m)):=⟨hb,aJ l⟩
 obtain ⟨R,hR⟩:∃ R,R=rch b false l:=⟨_,rfl⟩
 rw [<- hR]
 have HL:Hid (hdn b l<=l.length/\hdD b (l.drop (hdn b l))=false/\(hdn b l=0 -> R=0)/\(0<hdn b l -> R=hdn b l+rch b true (l.drop (hdn b l)))) :=
  ⟨yN b l,pG l,fun z=>by rw [hR];exact aAf z,fun z=>by rw [hR];exact sR l false z⟩
 have HSZ:Hid ((sB l).size=l.length/\∀ n (h:n<l.length) (h':n<(sB l).size),(sB l)[n]'h'=l[n]'h):=⟨rfl,fun _ _ _=>rfl⟩
 have hbig:(sB l).size<=140737488351256:=hl
 clear hR h2 hb hl
 generalize hdn b l=n0 at *
 generalize sB l=s at *
 go_enter Tryz.func128,Tryz.ntmps128
 go_wp2_with fail
 refine (H0 _).mono ?_
 rintro e w ⟨rfl,rfl⟩
 go_wp2
 go_loop [5] (fun i=>∃ n:Nat,n<=s.size/\i=vI (n:Int)/\Hid (hdD b (l.drop n)=false/\(n=0 -> R=0)/\(0<n -> R=n+rch b true (l.drop n)))) (fun i=>s.size - (intOf i).toNat)
 case atStart=>exact ⟨n0,by rw [HSZ.out.1];exact HL.out.1,rfl,HL.out.2⟩
 case round =>
  clear HL H0
  obtain ⟨n,hn,rfl,HK⟩:=hrel
  by_cases z:n=0
  . subst z
    have HK2:Hid (R=0):=HK.out.2.1 rfl
    clear HK
    go_wp2
    go_ret
    exact ⟨by rw [HK2.out];rfl,rfl⟩
  . have n1:(0:Int)<(n:Int):=by omega
    by_cases hlt':n<s.size
    . have hlt:n<l.length:=by rw [<- HSZ.out.1];exact hlt'
      have i1:(n:Int)<(s.size:Int):=by omega
      have i0:(0:Int)<=(n:Int):=by omega
      have hg:s[n]'hlt'=l[n]'hlt:=HSZ.out.2 n hlt hlt'
      by_cases q:l[n]'hlt=95
      . have hx:(((s[n]'hlt').toNat:Nat):Int)=95:=by rw [hg,q];rfl
        have x1:=HX.out.2 (n+1)
        have i5:(n:Int)+1<=(s.size:Int):=by omega
        have i6:((n:Int)+1).toNat=n+1:=by omega
        have H1:=fun W=>H (n+1) W
        have HN:Hid (hdn b (l.drop (n+1))<=s.size - (n+1)/\hdD b (l.drop (n+1+hdn b (l.drop (n+1))))=false/\R=n+(if hdn b (l.drop (n+1))=0 then 0 else 1+hdn b (l.drop (n+1))+rch b true (l.drop (n+(1+hdn b (l.drop (n+1))))))):=by
         refine ⟨?_,?_,?_⟩
         . have:=yN b (l.drop (n+1));rw [List.length_drop] at this;rw [HSZ.out.1];exact this
         . have:=pG (b:=b) (l.drop (n+1));rw [List.drop_drop] at this;exact this
         . rw [HK.out.2.2 (by omega),aHx HX.out.1 hlt q]
        have H2:∀ W,Cs 176 #[.string (sB (l.drop (n+1))),vI (b:Int)] W (.tuple #[vI (hdn b (l.drop (n+1)):Int),.nilIface]):=H1
        clear H H1 q HK hg hlt
        generalize hdn b (l.drop (n+1))=m at *
        generalize sB (l.drop (n+1))=t at *
        by_cases y:m=0
        . subst y
          have HK2:Hid (R=n):=by
           have:=HN.out.2.2
           rw [if_pos rfl] at this
           exact this
          clear HN
          go_wp2_with fail
          refine (H2 _).mono ?_
          rintro e w ⟨rfl,rfl⟩
          go_wp2
          go_ret
          exact ⟨by rw [HK2.out];rfl,rfl⟩
        . have y':((m:Int) == 0)=false:=beq_eq_false_iff_ne.mpr (by omega)
          have hm:m<=s.size - (n+1):=HN.out.1
          have HK2:Hid (hdD b (l.drop (n+(1+m)))=false/\(n+(1+m)=0 -> R=0)/\(0<n+(1+m) -> R=n+(1+m)+rch b true (l.drop (n+(1+m))))):=by
           have:=HN.out
           rw [if_neg y] at this
           refine ⟨?_,fun z=>by omega,fun _=>?_⟩
           . rw [<- Nat.add_assoc];exact this.2.1
           . rw [this.2.2];omega
          clear HN
          go_wp2_with fail
          refine (H2 _).mono ?_
          rintro e w ⟨rfl,rfl⟩
          go_wp2
          go_round
          case rel=>exact ⟨n+(1+m),by omega,by go_num,HK2⟩
          case measure=>simp [intOf];omega
      . have hx:((((s[n]'hlt').toNat:Nat):Int) == 95)=false:=dU (c:=s[n]'hlt') (n:=95) (by rw [hg];exact q)
        have HK2:Hid (R=n):=by
         show _=_
         rw [HK.out.2.2 (by omega),aAr HK.out.1 (fun _=>q)];omega
        clear HK q hg H hlt
        go_wp2
        go_ret
        exact ⟨by rw [HK2.out];rfl,rfl⟩
    . have i1:¬ (n:Int)<(s.size:Int):=by omega
      have HK2:Hid (R=n):=by
       show _=_
       rw [HK.out.2.2 (by omega),aAr HK.out.1 (fun h=>absurd h (by rw [<- HSZ.out.1];exact hlt'))];omega
      clear HK H
      go_wp2
      go_ret
      exact ⟨by rw [HK2.out];rfl,rfl⟩
def jnB (l:List UInt8):Bool:=bgn 95 l && decide (0<rch 16 false (l.drop 1))
theorem uA        (l : List UInt8) (hl : l.length ≤ 140737488351256) (w : World) : Calls Tryz.prog 96 #[.string (sB l)] w fun e w' => e = .returned (.bool (jnB l)) ∧ w' = w := by
  have P : ∀ W, Calls Tryz.prog 127 #[.string (sB l), .string ⟨#[95]⟩] W fun e w' => e = .returned (.bool (bgn 95 l)) ∧ w' = W := fun W => vW            l hl 95 W
  have R : ∀ W, Calls Tryz.prog 128 #[.string (sB (l.drop 1)), .int .i64 16] W fun e w' => e = .returned (.int .i64 (rch 16 false (l.drop 1) : Int)) ∧ w' = W := fun W => oG      (l.drop 1) (by rw [List.length_drop]; omega) 16 (by omega) (by omega) W
  unfold jnB
  cases q : bgn 95 l with
  | false =>
    rw [q] at P
    rw [Bool.false_and]
    clear R q
    go_enter Tryz.func96, Tryz.ntmps96
    go_wp2_with fail
    refine (P _).mono ?_
    rintro e w ⟨rfl, rfl⟩
    go_wp2
    go_ret
    exact ⟨rfl, rfl⟩
  | true =>
    rw [q] at P
    rw [Bool.true_and]
    have hz0 : (1 : Int) ≤ ((sB l).size : Int) := by
      cases l with
      | nil => rw [show bgn 95 [] = false from decide_eq_false (by decide)] at q; cases q
      | cons x r => rw [aA     ]; simp; omega
    have hz2 : (sB l).size ≤ 140737488351256 := hl
    have x1 : (sB l).extract 1 (sB l).size = sB (l.drop 1) := aJ      _ _
    clear q hl
    generalize rch 16 false (l.drop 1) = n at *
    generalize sB (l.drop 1) = t at *
    generalize sB l = s at *
    go_enter Tryz.func96, Tryz.ntmps96
    go_wp2_with fail
    refine (P _).mono ?_
    rintro e w ⟨rfl, rfl⟩
    go_wp2_with fail
    refine (R _).mono ?_
    rintro e w ⟨rfl, rfl⟩
    go_wp2
    go_ret
    exact ⟨by simp, rfl⟩
end Go.Proofs.YtejgpbhionadbaaGreatDoor
