/-
  Holds: UUiA.
-/
import Derived.Test.YtejgpbhionadbaaGreatDoorChecked
import Derived.WalkKit
import Derived.Deep.DeepMust
import Derived.Test.YtejgpbhionadbaaGreatDoorXl2
set_option maxRecDepth 100000
set_option maxHeartbeats 4000000
namespace Go.Proofs.YtejgpbhionadbaaGreatDoor
open Go.RowKit
theorem pY (c:Nat) (hc:c<256) (w:World) :
 Cs 133 #[.int .u8 (c:Int)] w (.tuple #[vI (vN c),.bool (vB c)]):=by
 by_cases a:48<=c/\c<=57
 . have a0:=a
   obtain ⟨a1,a2⟩:=a
   have e:vN c=(c:Int) - 48:=by unfold vN dv;rw [if_pos a0];first | (rw [if_pos (by omega)];omega) | exact decide_eq_true (by omega)
   have e2:vB c=true:=by unfold vB dv;rw [if_pos a0];first | (rw [if_pos (by omega)];omega) | exact decide_eq_true (by omega)
   rw [e,e2]
   clear e e2
   have b1:(48:Int)<=(c:Int):=by omega
   have b2:(c:Int)<=57:=by omega
   clear a0
   go_enter Tryz.func133,Tryz.ntmps133
   go_wp2
   all_goals first | omega | (go_ret2;exact ⟨rfl,rfl⟩)
 . by_cases b:97<=c/\c<=122
   . have b0:=b
     obtain ⟨b1,b2⟩:=b
     have e:vN c=(c:Int) - 97+10:=by unfold vN dv;rw [if_neg a,if_pos b0];first | (rw [if_pos (by omega)];omega) | exact decide_eq_true (by omega)
     have e2:vB c=true:=by unfold vB dv;rw [if_neg a,if_pos b0];first | (rw [if_pos (by omega)];omega) | exact decide_eq_true (by omega)
     rw [e,e2]
     clear e e2
     have b3:(97:Int)<=(c:Int):=by omega
     have b4:(c:Int)<=122:=by omega
     have b5:¬ (c:Int)<=57:=by omega
     have b6:¬ (c:Int)<=90:=by omega
     clear a b0
     go_enter Tryz.func133,Tryz.ntmps133
     go_wp2
     all_goals first | omega | (go_ret2;exact ⟨rfl,rfl⟩)
   . by_cases d:65<=c/\c<=90
     . have d0:=d
       obtain ⟨d1,d2⟩:=d
       have e:vN c=(c:Int) - 65+10:=by unfold vN dv;rw [if_neg a,if_neg b,if_pos d0];first | (rw [if_pos (by omega)];omega) | exact decide_eq_true (by omega)
       have e2:vB c=true:=by unfold vB dv;rw [if_neg a,if_neg b,if_pos d0];first | (rw [if_pos (by omega)];omega) | exact decide_eq_true (by omega)
       rw [e,e2]
       clear e e2
       have b1:(65:Int)<=(c:Int):=by omega
       have b2:(c:Int)<=90:=by omega
       have b3:¬ (c:Int)<=57:=by omega
       have b4:¬ (97:Int)<=(c:Int):=by omega
       have b5:(c:Int)+32 - 97=(c:Int) - 65:=by omega
       clear a b d0
       go_enter Tryz.func133,Tryz.ntmps133
       go_wp2
       all_goals first | omega | (go_ret2;exact ⟨rfl,rfl⟩)
     . have A:Hid (¬ (48<=c/\c<=57)/\¬ (97<=c/\c<=122)/\¬ (65<=c/\c<=90)):=⟨a,b,d⟩
       have e:vN c=0:=by unfold vN dv;rw [if_neg a,if_neg b,if_neg d];first | (rw [if_neg (by omega)]) | rfl
       have e2:vB c=false:=by unfold vB dv;rw [if_neg a,if_neg b,if_neg d];first | (rw [if_neg (by omega)]) | rfl
       rw [e,e2]
       clear e e2
       clear a b d
       go_enter Tryz.func133,Tryz.ntmps133
       go_wp2
       all_goals first | (have:=A.out;omega) | (go_ret2;exact ⟨rfl,rfl⟩)
theorem aFQ {c:Nat}(h:dv c<36):vN c=(dv c:Int):=by unfold vN;rw [if_pos h]
theorem aLN {c:Nat}(h:¬ dv c<36):vN c=0:=by unfold vN;rw [if_neg h]
theorem aFN {c:Nat}(h:dv c<36):vB c=true:=decide_eq_true h
theorem aLM {c:Nat}(h:¬ dv c<36):vB c=false:=decide_eq_false h
theorem oP (c:UInt8) (b:Nat) (hb:b<=36) (w:World) :
 Cs 213 #[.int .u8 (c.toNat:Int),vI (b:Int)] w (.bool (isD b c)):=by
 have R:=fun W=>pY c.toNat c.toNat_lt W
 unfold isD
 generalize c.toNat=x at *
 by_cases h:dv x<36
 . rw [aFQ h,aFN h] at R
   clear h
   generalize dv x=n at *
   go_enter Tryz.func213,Tryz.ntmps213
   go_wp2_with fail
   refine (R _).mono ?_
   rintro e w1 ⟨rfl,rfl⟩
   go_wp2
   go_ret
   exact ⟨rfl,rfl⟩
 . rw [aLN h,aLM h] at R
   rw [decide_eq_false (show ¬ dv x<b by omega)]
   clear h
   go_enter Tryz.func213,Tryz.ntmps213
   go_wp2_with fail
   refine (R _).mono ?_
   rintro e w1 ⟨rfl,rfl⟩
   go_wp2
   go_ret
   exact ⟨rfl,rfl⟩
theorem uX (b:Int) (h1:2<=b) (h2:b<=36) (w:World):Cs 212 #[vI b] w (.bool true):=by
 go_enter Tryz.func212,Tryz.ntmps212
 go_wp2
 go_ret
 exact ⟨rfl,rfl⟩
theorem kQ (s:ByteArray) (hs:s.size<=9223372036854775807) (w:World):Cs 95 #[.string s] w (.tuple #[vI (pfB (bt s 0) (bt s 1)),vI (pfN (bt s 0) (bt s 1))]):=by
 by_cases h:s.size<2
 . have y:bt s 1=256:=pX (by omega)
   have e1:pfB (bt s 0) (bt s 1)=10:=by unfold pfB;rw [y,if_neg (by omega)]
   have e2:pfN (bt s 0) (bt s 1)=0:=by unfold pfN;rw [y,if_neg (by omega)]
   rw [e1,e2]
   clear e1 e2 y
   go_enter Tryz.func95,Tryz.ntmps95
   go_wp2
   go_ret2
   exact ⟨rfl,rfl⟩
 . have g0:0<s.size:=by omega
   have g1:1<s.size:=by omega
   rw [nS g0,nS g1]
   obtain ⟨x,hx⟩:∃ x:Nat,(s[0]'g0).toNat=x:=⟨_,rfl⟩
   obtain ⟨y,hy⟩:∃ y:Nat,(s[1]'g1).toNat=y:=⟨_,rfl⟩
   have hy3:y<256:=by rw [<- hy];exact UInt8.toNat_lt _
   have HY:Hid (y<256):=hy3
   clear hy3
   rw [hx,hy]
   have hx':(((s[0]'g0).toNat:Nat):Int)=(x:Int):=by rw [hx]
   have hy':(((s[1]'g1).toNat:Nat):Int)=(y:Int):=by rw [hy]
   have h2:¬ (s.size:Int)<2:=by omega
   clear hx hy h
   by_cases c:x=48
   . subst c
     have q:y=66 \/ y=98 \/ y=79 \/ y=111 \/ y=88 \/ y=120 \/ (y ≠ 66/\y ≠ 98/\y ≠ 79/\y ≠ 111/\y ≠ 88/\y ≠ 120):=by omega
     rcases q with rfl | rfl | rfl | rfl | rfl | rfl | q
     iterate 6
      . go_enter Tryz.func95,Tryz.ntmps95
        go_wp2
        go_ret2
        exact ⟨rfl,rfl⟩
     . obtain ⟨q1,q2,q3,q4,q5,q6⟩:=q
       have e1:pfB 48 y=8:=by unfold pfB;rw [if_pos ⟨rfl,HY.out⟩,if_neg (by omega),if_neg (by omega)]
       have e2:pfN 48 y=1:=by unfold pfN;rw [if_pos ⟨rfl,HY.out⟩,if_neg (by omega)]
       rw [e1,e2]
       have p1:((y:Int) == 66)=false:=by simp;omega
       have p2:((y:Int) == 98)=false:=by simp;omega
       have p3:((y:Int) == 79)=false:=by simp;omega
       have p4:((y:Int) == 111)=false:=by simp;omega
       have p5:((y:Int) == 88)=false:=by simp;omega
       have p6:((y:Int) == 120)=false:=by simp;omega
       clear e1 e2 q1 q2 q3 q4 q5 q6
       go_enter Tryz.func95,Tryz.ntmps95
       go_wp2
       go_ret2
       exact ⟨rfl,rfl⟩
   . have e1:pfB x y=10:=by unfold pfB;rw [if_neg (by omega)]
     have e2:pfN x y=0:=by unfold pfN;rw [if_neg (by omega)]
     rw [e1,e2]
     have p1:((x:Int) == 48)=false:=by simp;omega
     clear e1 e2 c
     go_enter Tryz.func95,Tryz.ntmps95
     go_wp2
     go_ret2
     exact ⟨rfl,rfl⟩
theorem aGC (s:ByteArray) (hs:s.size<=9223372036854775807) (b:Nat) (h1:2<=b) (h2:b<=36) (w:World) :
 Cs 176 #[.string s,vI (b:Int)] w (.tuple #[vI (hdn b s.data.toList:Int),.nilIface]):=by
 have V:=fun W=>uX (b:Int) (by omega) (by omega) W
 have D:=fun c W=>oP c b h2 W
 obtain ⟨n,hn⟩:∃ n,n=hdn b s.data.toList:=⟨_,rfl⟩
 rw [<- hn]
 have HN:Hid (n=hdn b s.data.toList):=hn
 clear hn h1 h2
 go_enter Tryz.func176,Tryz.ntmps176
 go_wp2_with fail
 refine (V _).mono ?_
 rintro e w1 ⟨rfl,rfl⟩
 go_wp2
 go_loop [6] (fun i=>∃ k:Nat,k<=s.size/\i=vI (k:Int)/\Hid (n=k+hdn b (s.data.toList.drop k))) (fun i=>s.size - (intOf i).toNat)
 case atStart=>exact ⟨0,Nat.zero_le _,rfl,by rw [List.drop_zero,Nat.zero_add];exact HN.out⟩
 case round =>
  clear V HN
  obtain ⟨k,hk,rfl,HK⟩:=hrel
  by_cases hlt:k<s.size
  . have hd:=bN s hlt
    obtain ⟨c,hc⟩:∃ c,s[k]'hlt=c:=⟨_,rfl⟩
    rw [hc] at hd
    have hc':(((s[k]'hlt).toNat:Nat):Int)=(c.toNat:Int):=by rw [hc]
    have D1:=fun W=>D c W
    by_cases q:isD b c=true
    . rw [q] at D1
      have HK2:Hid (n=(k+1)+hdn b (s.data.toList.drop (k+1))):=by
       show _=_
       rw [HK.out,hd,gM q];omega
      clear hd hc q D
      go_wp2_with fail
      refine (D1 _).mono ?_
      rintro e w1 ⟨rfl,rfl⟩
      go_wp2
      go_round
      case rel=>exact ⟨k+1,by omega,by go_num,HK2⟩
      case measure=>simp [intOf];omega
    . have q':isD b c=false:=by simpa using q
      rw [q'] at D1
      have HK2:Hid (n=k):=by
       show _=_
       rw [HK.out,hd,lX q'];omega
      clear hd hc q q' D
      go_wp2_with fail
      refine (D1 _).mono ?_
      rintro e w1 ⟨rfl,rfl⟩
      go_wp2
      go_ret2
      exact ⟨by rw [HK2.out];rfl,rfl⟩
  . have HK2:Hid (n=k):=by
     show _=_
     rw [HK.out,bP s hlt];rfl
    clear D
    go_wp2
    go_ret2
    exact ⟨by rw [HK2.out];rfl,rfl⟩
end Go.Proofs.YtejgpbhionadbaaGreatDoor
