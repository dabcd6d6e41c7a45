/-
  Holds: UCp3 UCp4 UPpA UCo2 UCo3 UBtA UBtD UBtE UBtF.
-/
import Derived.Laws.BitsAllLaws
import Derived.Test.YtejgpbhionadbaaGreatDoorChecked
import Derived.Lib.ItoaNum
import Derived.Laws.Externs
import Derived.WalkKit
import Derived.WalkSpells
import Derived.WalkLawsBesides
import Derived.Lib.Mul64
import Derived.Lib.TrailingZeros
import Derived.Deep.OwnRows
import Derived.Laws.CopyOwn
import Derived.BigQuiet
import Derived.Deep.RegionHeld3
import Derived.Deep.LoopGhost
import Derived.Deep.AppendLies
import Derived.Deep.DeepCutAuto
import Derived.Stop.Asserts
import Derived.RowKitTokens
import Derived.Lib.Strings
import Derived.Lib.BufferWrite
import Derived.Lib.ConvBytes
import Derived.Test.YtejgpbhionadbaaGreatDoorRows
import Derived.Test.YtejgpbhionadbaaGreatDoorXl16
set_option maxRecDepth 100000
set_option maxHeartbeats 4000000
namespace Go.Proofs.YtejgpbhionadbaaGreatDoor
open Go.RowKit
theorem ShB.start (w:World) (a b c d:Value) (T:TypeId):ShB w (w.alloc (.cells #[a,b,c,d] T)) a b c d :=
 ⟨by simp,bz _ _,by simp,by simp,by simp,by simp⟩
theorem aCR (w:World):Cb 89 #[] w (.agg #[vU 2147483648,vU 2139095040,vI 23,vI (-149)]):=by
 go_enter Tryz.func89,Tryz.ntmps89
 go_wp2
 exact bodyPost_ret (v:=.agg #[vU 2147483648,vU 2139095040,vI 23,vI (-149)]) (by simp [results,Tryz.results89,go_sem]) rfl ⟨rfl,bz _ _⟩
theorem aCa (w:World):Cb 90 #[] w (.agg #[vU 9223372036854775808,vU 9218868437227405312,vI 52,vI (-1074)]):=by
 go_enter Tryz.func90,Tryz.ntmps90
 go_wp2
 exact bodyPost_ret (v:=.agg #[vU 9223372036854775808,vU 9218868437227405312,vI 52,vI (-1074)]) (by simp [results,Tryz.results90,go_sem]) rfl ⟨rfl,bz _ _⟩
theorem tW (w:World):Cb 101 #[.agg #[vU 2147483648,vU 2139095040,vI 23,vI (-149)]] w (vU 8388608):=by
 go_enter Tryz.func101,Tryz.ntmps101
 go_wp2
 go_ret
 exact ⟨rfl,bz _ _⟩
theorem gN (w:World):Cb 256 #[.agg #[vU 2147483648,vU 2139095040,vI 23,vI (-149)]] w (vI 104):=by
 go_enter Tryz.func256,Tryz.ntmps256
 go_wp2
 go_region_held3 (fun w'=>w'.cell? ⟨w.heap.size,1,none⟩=some (vU 2139095040)/\w'.cell? ⟨w.heap.size,2,none⟩=some (vI 23)/\w'.cell? ⟨w.heap.size,3,none⟩=some (vI (-149))) (simp [*,go_sem]) (fail)
 go_wp2
 go_ret
 exact ⟨rfl,(bz _ _).drew⟩
theorem oQ {b:Nat}(h:b<4294967296) (w:World):Cb 67 #[.agg #[vU 2147483648,vU 2139095040,vI 23,vI (-149)],vU (b:Int)] w (.bool (ng 2147483648 b)):=by
 have hA:=aAJ b h
 cases q:ng 2147483648 b
 all_goals
  rw [q] at hA
  simp only [if_true,if_false,Bool.false_eq_true] at hA
  clear q h
  go_enter Tryz.func67,Tryz.ntmps67
  go_wp2
  go_ret
  exact ⟨rfl,bz _ _⟩
theorem iD {b:Nat}(h:b<4294967296) (w:World):Cb 65 #[.agg #[vU 2147483648,vU 2139095040,vI 23,vI (-149)],vU (b:Int)] w (vU ((mg 2147483648 b:Nat):Int)):=by
 have hA:=tG b h
 clear h
 go_enter Tryz.func65,Tryz.ntmps65
 go_wp2
 go_ret
 exact ⟨rfl,bz _ _⟩
theorem mX {x:Nat}(h:x<2147483648) (c:Bool) (w:World):Cb 74 #[.agg #[vU 2147483648,vU 2139095040,vI 23,vI (-149)],vU (x:Int),.bool c] w (vU ((sgd 2147483648 c x:Nat):Int)):=by
 have hA:=kL h
 have H:Hid (sgd 2147483648 true x=x+2147483648/\sgd 2147483648 false x=x):=⟨rfl,rfl⟩
 clear h
 cases c
 all_goals
  go_enter Tryz.func74,Tryz.ntmps74
  go_wp2
  go_ret
  exact ⟨rfl,bz _ _⟩
theorem cX {b:Nat}(h:b<4294967296) (w:World):Cb 42 #[.agg #[vU 2147483648,vU 2139095040,vI 23,vI (-149)],vU (b:Int)] w (vI (cl 2139095040 (mg 2147483648 b))):=by
 have HM:=fun W=>iD h W
 have hl:=nZ (g:=2147483648) (by decide) b
 generalize mg 2147483648 b=x at *
 have C:=gX 2139095040 x
 have C2:(((x:Int) == 0)=true/\cl 2139095040 x=1) \/ (((x:Int) == 0)=false/\decide ((x:Int)<2139095040)=true/\cl 2139095040 x=2) \/ (((x:Int) == 0)=false/\decide ((x:Int)<2139095040)=false/\((x:Int) == 2139095040)=true/\cl 2139095040 x=3) \/ (((x:Int) == 0)=false/\decide ((x:Int)<2139095040)=false/\((x:Int) == 2139095040)=false/\cl 2139095040 x=4):=by
  rcases C with ⟨p,q⟩ | ⟨p0,p1,q⟩ | ⟨p0,p1,q⟩ | ⟨p1,q⟩
  . exact .inl ⟨by simp;omega,q⟩
  . exact .inr (.inl ⟨by simp;omega,by simp;omega,q⟩)
  . exact .inr (.inr (.inl ⟨by simp;omega,by simp;omega,by simp;omega,q⟩))
  . exact .inr (.inr (.inr ⟨by simp;omega,by simp;omega,by simp;omega,q⟩))
 clear C h hl
 generalize cl 2139095040 x=C at *
 rcases C2 with ⟨p0,rfl⟩ | ⟨p0,p1,rfl⟩ | ⟨p0,p1,p2,rfl⟩ | ⟨p0,p1,p2,rfl⟩
 all_goals
  go_enter Tryz.func42,Tryz.ntmps42
  go_wp2_with fail
  refine (HM _).mono ?_
  rintro e w1 ⟨rfl,hb⟩
  have T:Hid (ShB w w1 _ _ _ _):=(ShB.start w (vU 2147483648) (vU 2139095040) (vI 23) (vI (-149)) 78).step hb
  clear hb
  obtain ⟨_,_,a0,a1,a2,a3⟩:=T.out
  go_wp2
  go_ret
  exact ⟨rfl,T.out.bel⟩
theorem aIE {x:Nat}(h:x<2147483648) (w:World):Cb 222 #[.agg #[vU 2147483648,vU 2139095040,vI 23,vI (-149)],vU (x:Int)] w (.tuple #[vU ((mt 23 x:Nat):Int),vI (xp 23 (-149) x)]):=by
 have HH:=fun W=>tW W
 have hM:=oM (m:=x) (by omega)
 have lo:=Nat.mod_lt x (show 0<8388608 by decide)
 have hO:=aEK lo
 have E1:Hid (mt 23 x=if x / 8388608=0 then x else x % 8388608+8388608):=rfl
 have E2:Hid (xp 23 (-149) x=if x / 8388608=0 then (-149) else (-149)+((x / 8388608:Nat):Int) - 1):=rfl
 have E3:Hid (x / 8388608 * 8388608+x % 8388608=x):=Nat.div_add_mod' x 8388608
 have hq:x / 8388608<2048:=by omega
 have eq:(x:Int) / 8388608=((x / 8388608:Nat):Int):=rfl
 obtain ⟨r,hr⟩:∃ r,r=x % 8388608:=⟨_,rfl⟩
 obtain ⟨k,hk⟩:∃ k,k=x / 8388608:=⟨_,rfl⟩
 rw [<- hr] at hM hO lo E1 E3
 rw [<- hk] at hq eq E1 E2 E3
 have HR:Hid (r=x % 8388608):=hr
 have HK:Hid (k=x / 8388608):=hk
 clear hr hk
 by_cases z:k=0
 . have e0:((k:Int) == 0)=true:=by simp;omega
   have F:Hid (mt 23 x=r/\xp 23 (-149) x=(-149)):=⟨by rw [E1.out,if_pos z];have:=E3.out;rw [z] at this;omega,by rw [E2.out,if_pos z]⟩
   rw [F.out.1,F.out.2]
   clear z
   go_enter Tryz.func222,Tryz.ntmps222
   go_wp2_with fail
   refine (HH _).mono ?_
   rintro e w1 ⟨rfl,hb⟩
   have T:Hid (ShB w w1 _ _ _ _):=(ShB.start w (vU 2147483648) (vU 2139095040) (vI 23) (vI (-149)) 78).step hb
   clear hb
   obtain ⟨_,_,a0,a1,a2,a3⟩:=T.out
   go_wp2
   go_region_held3 (fun w'=>w'.cell? ⟨w.heap.size,0,none⟩=some (vU 2147483648)/\w'.cell? ⟨w.heap.size,1,none⟩=some (vU 2139095040)/\w'.cell? ⟨w.heap.size,2,none⟩=some (vI 23)/\w'.cell? ⟨w.heap.size,3,none⟩=some (vI (-149))) (simp [*,go_sem]) (fail)
   go_wp2
   go_ret2
   exact ⟨rfl,T.out.bel.drew⟩
 . have e0:((k:Int) == 0)=false:=by simp;omega
   have F:Hid (mt 23 x=r+8388608/\xp 23 (-149) x=(-149)+(k:Int) - 1):=⟨by rw [E1.out,if_neg z],by rw [E2.out,if_neg z]⟩
   rw [F.out.1,F.out.2]
   have i1:IntKind.i64.wrap ((-149)+(k:Int))=(-149)+(k:Int):=IntWalk.i64_in _ ⟨by omega,by omega⟩
   have i2:IntKind.i64.wrap ((-149)+(k:Int) - 1)=(-149)+(k:Int) - 1:=IntWalk.i64_in _ ⟨by omega,by omega⟩
   go_enter Tryz.func222,Tryz.ntmps222
   go_wp2_with fail
   refine (HH _).mono ?_
   rintro e w1 ⟨rfl,hb⟩
   have T:Hid (ShB w w1 _ _ _ _):=(ShB.start w (vU 2147483648) (vU 2139095040) (vI 23) (vI (-149)) 78).step hb
   clear hb
   obtain ⟨_,_,a0,a1,a2,a3⟩:=T.out
   go_wp2
   go_region_held3 (fun w'=>w'.cell? ⟨w.heap.size,0,none⟩=some (vU 2147483648)/\w'.cell? ⟨w.heap.size,1,none⟩=some (vU 2139095040)/\w'.cell? ⟨w.heap.size,2,none⟩=some (vI 23)/\w'.cell? ⟨w.heap.size,3,none⟩=some (vI (-149))) (simp [*,go_sem])
    (first | (go_at_call 101;refine (HH _).mono ?_;rintro x w2 ⟨rfl,hb2⟩;have T2:Hid (ShB w w2 _ _ _ _):=T.out.drew.step hb2;clear hb2;obtain ⟨_,_,b0,b1,b2,b3⟩:=T2.out))
   go_wp2
   go_ret2
   exact ⟨rfl,T2.out.bel⟩
theorem tX (w:World):Cb 101 #[.agg #[vU 9223372036854775808,vU 9218868437227405312,vI 52,vI (-1074)]] w (vU 4503599627370496):=by
 go_enter Tryz.func101,Tryz.ntmps101
 go_wp2
 go_ret
 exact ⟨rfl,bz _ _⟩
theorem gO (w:World):Cb 256 #[.agg #[vU 9223372036854775808,vU 9218868437227405312,vI 52,vI (-1074)]] w (vI 971):=by
 go_enter Tryz.func256,Tryz.ntmps256
 go_wp2
 go_region_held3 (fun w'=>w'.cell? ⟨w.heap.size,1,none⟩=some (vU 9218868437227405312)/\w'.cell? ⟨w.heap.size,2,none⟩=some (vI 52)/\w'.cell? ⟨w.heap.size,3,none⟩=some (vI (-1074))) (simp [*,go_sem]) (fail)
 go_wp2
 go_ret
 exact ⟨rfl,(bz _ _).drew⟩
theorem oR {b:Nat}(h:b<18446744073709551616) (w:World):Cb 67 #[.agg #[vU 9223372036854775808,vU 9218868437227405312,vI 52,vI (-1074)],vU (b:Int)] w (.bool (ng 9223372036854775808 b)):=by
 have hA:=aAK b h
 cases q:ng 9223372036854775808 b
 all_goals
  rw [q] at hA
  simp only [if_true,if_false,Bool.false_eq_true] at hA
  clear q h
  go_enter Tryz.func67,Tryz.ntmps67
  go_wp2
  go_ret
  exact ⟨rfl,bz _ _⟩
theorem iE {b:Nat}(h:b<18446744073709551616) (w:World):Cb 65 #[.agg #[vU 9223372036854775808,vU 9218868437227405312,vI 52,vI (-1074)],vU (b:Int)] w (vU ((mg 9223372036854775808 b:Nat):Int)):=by
 have hA:=tH b h
 clear h
 go_enter Tryz.func65,Tryz.ntmps65
 go_wp2
 go_ret
 exact ⟨rfl,bz _ _⟩
theorem mY {x:Nat}(h:x<9223372036854775808) (c:Bool) (w:World):Cb 74 #[.agg #[vU 9223372036854775808,vU 9218868437227405312,vI 52,vI (-1074)],vU (x:Int),.bool c] w (vU ((sgd 9223372036854775808 c x:Nat):Int)):=by
 have hA:=kM h
 have H:Hid (sgd 9223372036854775808 true x=x+9223372036854775808/\sgd 9223372036854775808 false x=x):=⟨rfl,rfl⟩
 clear h
 cases c
 all_goals
  go_enter Tryz.func74,Tryz.ntmps74
  go_wp2
  go_ret
  exact ⟨rfl,bz _ _⟩
theorem cY {b:Nat}(h:b<18446744073709551616) (w:World):Cb 42 #[.agg #[vU 9223372036854775808,vU 9218868437227405312,vI 52,vI (-1074)],vU (b:Int)] w (vI (cl 9218868437227405312 (mg 9223372036854775808 b))):=by
 have HM:=fun W=>iE h W
 have hl:=nZ (g:=9223372036854775808) (by decide) b
 generalize mg 9223372036854775808 b=x at *
 have C:=gX 9218868437227405312 x
 have C2:(((x:Int) == 0)=true/\cl 9218868437227405312 x=1) \/ (((x:Int) == 0)=false/\decide ((x:Int)<9218868437227405312)=true/\cl 9218868437227405312 x=2) \/ (((x:Int) == 0)=false/\decide ((x:Int)<9218868437227405312)=false/\((x:Int) == 9218868437227405312)=true/\cl 9218868437227405312 x=3) \/ (((x:Int) == 0)=false/\decide ((x:Int)<9218868437227405312)=false/\((x:Int) == 9218868437227405312)=false/\cl 9218868437227405312 x=4):=by
  rcases C with ⟨p,q⟩ | ⟨p0,p1,q⟩ | ⟨p0,p1,q⟩ | ⟨p1,q⟩
  . exact .inl ⟨by simp;omega,q⟩
  . exact .inr (.inl ⟨by simp;omega,by simp;omega,q⟩)
  . exact .inr (.inr (.inl ⟨by simp;omega,by simp;omega,by simp;omega,q⟩))
  . exact .inr (.inr (.inr ⟨by simp;omega,by simp;omega,by simp;omega,q⟩))
 clear C h hl
 generalize cl 9218868437227405312 x=C at *
 rcases C2 with ⟨p0,rfl⟩ | ⟨p0,p1,rfl⟩ | ⟨p0,p1,p2,rfl⟩ | ⟨p0,p1,p2,rfl⟩
 all_goals
  go_enter Tryz.func42,Tryz.ntmps42
  go_wp2_with fail
  refine (HM _).mono ?_
  rintro e w1 ⟨rfl,hb⟩
  have T:Hid (ShB w w1 _ _ _ _):=(ShB.start w (vU 9223372036854775808) (vU 9218868437227405312) (vI 52) (vI (-1074)) 78).step hb
  clear hb
  obtain ⟨_,_,a0,a1,a2,a3⟩:=T.out
  go_wp2
  go_ret
  exact ⟨rfl,T.out.bel⟩
theorem aIF {x:Nat}(h:x<9223372036854775808) (w:World):Cb 222 #[.agg #[vU 9223372036854775808,vU 9218868437227405312,vI 52,vI (-1074)],vU (x:Int)] w (.tuple #[vU ((mt 52 x:Nat):Int),vI (xp 52 (-1074) x)]):=by
 have HH:=fun W=>tX W
 have hM:=oN (m:=x) (by omega)
 have lo:=Nat.mod_lt x (show 0<4503599627370496 by decide)
 have hO:=aEL lo
 have E1:Hid (mt 52 x=if x / 4503599627370496=0 then x else x % 4503599627370496+4503599627370496):=rfl
 have E2:Hid (xp 52 (-1074) x=if x / 4503599627370496=0 then (-1074) else (-1074)+((x / 4503599627370496:Nat):Int) - 1):=rfl
 have E3:Hid (x / 4503599627370496 * 4503599627370496+x % 4503599627370496=x):=Nat.div_add_mod' x 4503599627370496
 have hq:x / 4503599627370496<2048:=by omega
 have eq:(x:Int) / 4503599627370496=((x / 4503599627370496:Nat):Int):=rfl
 obtain ⟨r,hr⟩:∃ r,r=x % 4503599627370496:=⟨_,rfl⟩
 obtain ⟨k,hk⟩:∃ k,k=x / 4503599627370496:=⟨_,rfl⟩
 rw [<- hr] at hM hO lo E1 E3
 rw [<- hk] at hq eq E1 E2 E3
 have HR:Hid (r=x % 4503599627370496):=hr
 have HK:Hid (k=x / 4503599627370496):=hk
 clear hr hk
 by_cases z:k=0
 . have e0:((k:Int) == 0)=true:=by simp;omega
   have F:Hid (mt 52 x=r/\xp 52 (-1074) x=(-1074)):=⟨by rw [E1.out,if_pos z];have:=E3.out;rw [z] at this;omega,by rw [E2.out,if_pos z]⟩
   rw [F.out.1,F.out.2]
   clear z
   go_enter Tryz.func222,Tryz.ntmps222
   go_wp2_with fail
   refine (HH _).mono ?_
   rintro e w1 ⟨rfl,hb⟩
   have T:Hid (ShB w w1 _ _ _ _):=(ShB.start w (vU 9223372036854775808) (vU 9218868437227405312) (vI 52) (vI (-1074)) 78).step hb
   clear hb
   obtain ⟨_,_,a0,a1,a2,a3⟩:=T.out
   go_wp2
   go_region_held3 (fun w'=>w'.cell? ⟨w.heap.size,0,none⟩=some (vU 9223372036854775808)/\w'.cell? ⟨w.heap.size,1,none⟩=some (vU 9218868437227405312)/\w'.cell? ⟨w.heap.size,2,none⟩=some (vI 52)/\w'.cell? ⟨w.heap.size,3,none⟩=some (vI (-1074))) (simp [*,go_sem]) (fail)
   go_wp2
   go_ret2
   exact ⟨rfl,T.out.bel.drew⟩
 . have e0:((k:Int) == 0)=false:=by simp;omega
   have F:Hid (mt 52 x=r+4503599627370496/\xp 52 (-1074) x=(-1074)+(k:Int) - 1):=⟨by rw [E1.out,if_neg z],by rw [E2.out,if_neg z]⟩
   rw [F.out.1,F.out.2]
   have i1:IntKind.i64.wrap ((-1074)+(k:Int))=(-1074)+(k:Int):=IntWalk.i64_in _ ⟨by omega,by omega⟩
   have i2:IntKind.i64.wrap ((-1074)+(k:Int) - 1)=(-1074)+(k:Int) - 1:=IntWalk.i64_in _ ⟨by omega,by omega⟩
   go_enter Tryz.func222,Tryz.ntmps222
   go_wp2_with fail
   refine (HH _).mono ?_
   rintro e w1 ⟨rfl,hb⟩
   have T:Hid (ShB w w1 _ _ _ _):=(ShB.start w (vU 9223372036854775808) (vU 9218868437227405312) (vI 52) (vI (-1074)) 78).step hb
   clear hb
   obtain ⟨_,_,a0,a1,a2,a3⟩:=T.out
   go_wp2
   go_region_held3 (fun w'=>w'.cell? ⟨w.heap.size,0,none⟩=some (vU 9223372036854775808)/\w'.cell? ⟨w.heap.size,1,none⟩=some (vU 9218868437227405312)/\w'.cell? ⟨w.heap.size,2,none⟩=some (vI 52)/\w'.cell? ⟨w.heap.size,3,none⟩=some (vI (-1074))) (simp [*,go_sem])
    (first | (go_at_call 101;refine (HH _).mono ?_;rintro x w2 ⟨rfl,hb2⟩;have T2:Hid (ShB w w2 _ _ _ _):=T.out.drew.step hb2;clear hb2;obtain ⟨_,_,b0,b1,b2,b3⟩:=T2.out))
   go_wp2
   go_ret2
   exact ⟨rfl,T2.out.bel⟩
theorem FlB.newAt (W:World) (a b c d:Value) (T:TypeId) {K:Nat}(h:K=W.heap.size):FlB (W.alloc (.cells #[a,b,c,d] T)) K a b c d:=by
 subst h;exact FlB.new W a b c d T
theorem FlB.al {W:World}{K:Nat}{a b c d:Value}(h:FlB W K a b c d) (o:Obj):FlB (W.alloc o) K a b c d:=h.step (bz _ _)
theorem FlB.far {W:World}{K:Nat}{a b c d:Value}(h:FlB W K a b c d) (p:Addr) (v:Value) (n:K ≠ p.block):FlB (W.setCell p v) K a b c d:=by
 have e:(W.setCell p v).heap[K]?=W.heap[K]?:=Below.heap_setCell W p v K n
 have k:=fun o=>World.cell?_of_block (w:=W) (w':=W.setCell p v) (a:=⟨K,o,none⟩) e
 have j:=fun o=>World.frozen?_of_block (w:=W) (w':=W.setCell p v) (a:=⟨K,o,none⟩) e
 have z:K<(W.setCell p v).heap.size:=by simpa using h.lt
 exact ⟨z,(k 0).trans h.a0,(k 1).trans h.a1,(k 2).trans h.a2,(k 3).trans h.a3,(j 0).trans h.f0,(j 1).trans h.f1,(j 2).trans h.f2,(j 3).trans h.f3⟩
theorem FlB.set0 {W:World}{K:Nat}{a b c d:Value}(h:FlB W K a b c d) (v:Value):FlB (W.setCell ⟨K,0,none⟩ v) K v b c d:=by
 obtain ⟨z,a0,a1,a2,a3,f0,f1,f2,f3⟩:=h
 exact ⟨by simpa using z,World.cell?_setCell_same _ _ _ a0,(World.cell?_setCell_other _ ⟨K,0,none⟩ ⟨K,1,none⟩ v (by intro e;cases e)).trans a1,(World.cell?_setCell_other _ ⟨K,0,none⟩ ⟨K,2,none⟩ v (by intro e;cases e)).trans a2,(World.cell?_setCell_other _ ⟨K,0,none⟩ ⟨K,3,none⟩ v (by intro e;cases e)).trans a3,(World.frozen?_setCell ..).trans f0,(World.frozen?_setCell ..).trans f1,(World.frozen?_setCell ..).trans f2,(World.frozen?_setCell ..).trans f3⟩
theorem FlB.set1 {W:World}{K:Nat}{a b c d:Value}(h:FlB W K a b c d) (v:Value):FlB (W.setCell ⟨K,1,none⟩ v) K a v c d:=by
 obtain ⟨z,a0,a1,a2,a3,f0,f1,f2,f3⟩:=h
 exact ⟨by simpa using z,(World.cell?_setCell_other _ ⟨K,1,none⟩ ⟨K,0,none⟩ v (by intro e;cases e)).trans a0,World.cell?_setCell_same _ _ _ a1,(World.cell?_setCell_other _ ⟨K,1,none⟩ ⟨K,2,none⟩ v (by intro e;cases e)).trans a2,(World.cell?_setCell_other _ ⟨K,1,none⟩ ⟨K,3,none⟩ v (by intro e;cases e)).trans a3,(World.frozen?_setCell ..).trans f0,(World.frozen?_setCell ..).trans f1,(World.frozen?_setCell ..).trans f2,(World.frozen?_setCell ..).trans f3⟩
theorem FlB.set2 {W:World}{K:Nat}{a b c d:Value}(h:FlB W K a b c d) (v:Value):FlB (W.setCell ⟨K,2,none⟩ v) K a b v d:=by
 obtain ⟨z,a0,a1,a2,a3,f0,f1,f2,f3⟩:=h
 exact ⟨by simpa using z,(World.cell?_setCell_other _ ⟨K,2,none⟩ ⟨K,0,none⟩ v (by intro e;cases e)).trans a0,(World.cell?_setCell_other _ ⟨K,2,none⟩ ⟨K,1,none⟩ v (by intro e;cases e)).trans a1,World.cell?_setCell_same _ _ _ a2,(World.cell?_setCell_other _ ⟨K,2,none⟩ ⟨K,3,none⟩ v (by intro e;cases e)).trans a3,(World.frozen?_setCell ..).trans f0,(World.frozen?_setCell ..).trans f1,(World.frozen?_setCell ..).trans f2,(World.frozen?_setCell ..).trans f3⟩
theorem aFK {b:Nat}(h:b<4294967296) (w:World):Cb 184 #[.agg #[vU 2147483648,vU 2139095040,vI 23,vI (-149)],vU (b:Int)] w (.agg #[.bool (uN 2147483648 2139095040 b),vI (cl 2139095040 (mg 2147483648 b)),vU ((uM 2139095040 23 (mg 2147483648 b):Nat):Int),vI (uE 2139095040 23 (-149) (mg 2147483648 b))]):=by
 have HN:=fun W=>oQ h W
 have HC:=fun W=>cX h W
 have HM:=fun W=>iD h W
 have hl:=nZ (g:=2147483648) (by decide) b
 have HF:=fun W=>aIE hl W
 unfold uN uM uE
 generalize mg 2147483648 b=x at *
 generalize ng 2147483648 b=c at *
 generalize mt 23 x=M at *
 generalize xp 23 (-149) x=X at *
 have HQ:Hid (cl 2139095040 x=1 \/ cl 2139095040 x=2 \/ cl 2139095040 x=3 \/ cl 2139095040 x=4):=by
  rcases gX 2139095040 x with ⟨_,q⟩ | ⟨_,_,q⟩ | ⟨_,_,q⟩ | ⟨_,q⟩
  . exact .inl q
  . exact .inr (.inl q)
  . exact .inr (.inr (.inl q))
  . exact .inr (.inr (.inr q))
 generalize cl 2139095040 x=C at *
 have H1:Hid (FlB ((w.alloc (.cells #[vU 2147483648,vU 2139095040,vI 23,vI (-149)] 78)).alloc (.cells #[.bool false,vI 0,vU 0,vI 0] 226)) w.heap.size _ _ _ _):=(FlB.new w _ _ _ _ _).al _
 have H2:Hid (FlB ((w.alloc (.cells #[vU 2147483648,vU 2139095040,vI 23,vI (-149)] 78)).alloc (.cells #[.bool false,vI 0,vU 0,vI 0] 226)) (w.heap.size+1) _ _ _ _):=FlB.newAt _ _ _ _ _ _ (by simp)
 have HB:Hid (Bl w ((w.alloc (.cells #[vU 2147483648,vU 2139095040,vI 23,vI (-149)] 78)).alloc (.cells #[.bool false,vI 0,vU 0,vI 0] 226))):=(bz _ _).alloc (by simp) _
 go_enter Tryz.func184,Tryz.ntmps184
 go_upto_region 1 with fail
 go_cut [5] (fun p wx=>∃ K,p=.pointer (some ⟨K,0,none⟩)/\w.heap.size+2<=K/\Bl w wx/\FlB wx w.heap.size (vU 2147483648) (vU 2139095040) (vI 23) (vI (-149))/\FlB wx (w.heap.size+1) (.bool false) (vI 0) (vU 0) (vI 0)/\FlB wx K (.bool c) (vI C) (vU 0) (vI 0))
 case first =>
  go_region_held3 (fun w'=>w'.cell? ⟨w.heap.size,0,none⟩=some (vU 2147483648)/\w'.cell? ⟨w.heap.size,1,none⟩=some (vU 2139095040)/\w'.cell? ⟨w.heap.size,2,none⟩=some (vI 23)/\w'.cell? ⟨w.heap.size,3,none⟩=some (vI (-149))) (simp [*,go_sem,World.cell?_alloc_lt])
   (first
    | (go_at_call 67;refine (HN _).mono ?_;rintro x1 w2 ⟨rfl,hb2⟩;obtain ⟨hc2,hf2⟩:=dG hb2;have hz2:=hb2.size;(try simp at hz2);have y2:w.heap.size<w2.heap.size:=(by omega);have v2:w.heap.size+1<w2.heap.size:=(by omega);(first | (have u2:w.heap.size+1+1<w2.heap.size:=(by omega)) | skip);have HB2:Hid (Below _ _ _):=hb2;clear hb2)
    | (go_at_call 42;refine (HC _).mono ?_;rintro x2 w3 ⟨rfl,hb3⟩;obtain ⟨hc3,hf3⟩:=dG hb3;have hz3:=hb3.size;(try simp at hz3);have y3:w.heap.size<w3.heap.size:=(by omega);have v3:w.heap.size+1<w3.heap.size:=(by omega);have HB3:Hid (Below _ _ _):=hb3;clear hb3))
  all_goals
   go_wp2_with fail
   go_meet
   first
    | exact ⟨w3.heap.size,rfl,by omega,(HB.out.drew.trans (HB2.out.mono (by simp;omega))).trans (HB3.out.mono (by omega)) |>.alloc (by omega) _,((H1.out.drew.step HB2.out).step HB3.out).al _,((H2.out.drew.step HB2.out).step HB3.out).al _,FlB.new _ _ _ _ _ _⟩
    | exact ⟨w2.heap.size,rfl,by omega,((((((HB.out.drew.trans (HB2.out.mono (by simp;omega))).alloc (by omega) _).trans (HB3.out.mono (by simp;omega))).setCell (by show w.heap.size<=w2.heap.size;omega) _).setCell (by show w.heap.size<=w2.heap.size;omega) _).setCell (by show w.heap.size<=w2.heap.size;omega) _).setCell (by show w.heap.size<=w2.heap.size;omega) _,(((((H1.out.drew.step HB2.out).al _).step HB3.out).far _ _ (by show w.heap.size ≠ w2.heap.size;omega)).far _ _ (by show w.heap.size ≠ w2.heap.size;omega)).far _ _ (by show w.heap.size ≠ w2.heap.size;omega) |>.far _ _ (by show w.heap.size ≠ w2.heap.size;omega),(((((H2.out.drew.step HB2.out).al _).step HB3.out).far _ _ (by show w.heap.size+1 ≠ w2.heap.size;omega)).far _ _ (by show w.heap.size+1 ≠ w2.heap.size;omega)).far _ _ (by show w.heap.size+1 ≠ w2.heap.size;omega) |>.far _ _ (by show w.heap.size+1 ≠ w2.heap.size;omega),(((((FlB.new _ _ _ _ _ _).step HB3.out).set0 _).set1 _).set2 _).set3 _⟩
    | exact ⟨w.heap.size+1+1,rfl,by omega,(((((HB.out.alloc (by simp;omega) _).drew.trans (HB2.out.mono (by simp;omega))).trans (HB3.out.mono (by omega))).setCell (by show w.heap.size<=w.heap.size+1+1;omega) _).setCell (by show w.heap.size<=w.heap.size+1+1;omega) _).setCell (by show w.heap.size<=w.heap.size+1+1;omega) _ |>.setCell (by show w.heap.size<=w.heap.size+1+1;omega) _,(((((H1.out.al _).drew.step HB2.out).step HB3.out).far _ _ (by show w.heap.size ≠ w.heap.size+1+1;omega)).far _ _ (by show w.heap.size ≠ w.heap.size+1+1;omega)).far _ _ (by show w.heap.size ≠ w.heap.size+1+1;omega) |>.far _ _ (by show w.heap.size ≠ w.heap.size+1+1;omega),(((((H2.out.al _).drew.step HB2.out).step HB3.out).far _ _ (by show w.heap.size+1 ≠ w.heap.size+1+1;omega)).far _ _ (by show w.heap.size+1 ≠ w.heap.size+1+1;omega)).far _ _ (by show w.heap.size+1 ≠ w.heap.size+1+1;omega) |>.far _ _ (by show w.heap.size+1 ≠ w.heap.size+1+1;omega),((((((FlB.newAt _ _ _ _ _ _ (by simp)).drew.step HB2.out).step HB3.out).set0 _).set1 _).set2 _).set3 _⟩
 case rest =>
  clear H1 H2 HB HN HC
  obtain ⟨K,rfl,hK,bl,h1,h2,h3⟩:=hcut
  have BL:Hid (Bl w wc):=bl
  have H1:Hid (FlB _ _ _ _ _ _):=h1
  have H2:Hid (FlB _ _ _ _ _ _):=h2
  have H3:Hid (FlB _ _ _ _ _ _):=h3
  obtain ⟨l1,a0,a1,a2,a3,_,_,_,_⟩:=h1
  obtain ⟨l2,b0,b1,b2,b3,e0,e1,e2,e3⟩:=h2
  obtain ⟨l3,c0,c1,c2,c3,g0,g1,g2,g3⟩:=h3
  have n1:¬ K=w.heap.size+1:=by omega
  have n2:¬ w.heap.size+1=K:=by omega
  have n3:¬ K=w.heap.size:=by omega
  have n4:¬ w.heap.size=K:=by omega
  clear bl
  rcases HQ.out with q | q | q | q
  . subst q
    go_wp2
    refine bodyPost_ret (v:=.agg #[.bool c,vI 1,vU 0,vI 0]) (by simp [results,Tryz.results184,go_sem,World.cell?_setCell_same,World.cell?_setCell_other, *]) rfl ⟨rfl,?_⟩
    exact (((BL.out.setCell (by show w.heap.size<=w.heap.size+1;omega) _).setCell (by show w.heap.size<=w.heap.size+1;omega) _).setCell (by show w.heap.size<=w.heap.size+1;omega) _).setCell (by show w.heap.size<=w.heap.size+1;omega) _
  . subst q
    go_wp2
    go_region_held3 (fun w'=>w'.cell? ⟨w.heap.size,0,none⟩=some (vU 2147483648)/\w'.cell? ⟨w.heap.size,1,none⟩=some (vU 2139095040)/\w'.cell? ⟨w.heap.size,2,none⟩=some (vI 23)/\w'.cell? ⟨w.heap.size,3,none⟩=some (vI (-149))) (simp [*,go_sem])
     (first
      | (go_at_call 65;refine (HM _).mono ?_;rintro x1 w4 ⟨rfl,hb4⟩;have H14:Hid (FlB _ _ _ _ _ _):=H1.out.drew.step hb4;have H24:Hid (FlB _ _ _ _ _ _):=H2.out.drew.step hb4;have H34:Hid (FlB _ _ _ _ _ _):=H3.out.drew.step hb4;have B4:Hid (Bl w w4):=BL.out.drew.trans (hb4.mono (Nat.le_of_lt l1));clear hb4;obtain ⟨l14,a04,a14,a24,a34,_,_,_,_⟩:=H14.out)
      | (go_at_call 222;refine (HF _).mono ?_;rintro x2 w5 ⟨rfl,hb5⟩;have H15:Hid (FlB _ _ _ _ _ _):=H14.out.step hb5;have H25:Hid (FlB _ _ _ _ _ _):=H24.out.step hb5;have H35:Hid (FlB _ _ _ _ _ _):=H34.out.step hb5;have B5:Hid (Bl w w5):=B4.out.trans (hb5.mono (Nat.le_of_lt l14));clear hb5;obtain ⟨l15,a05,a15,a25,a35,_,_,_,_⟩:=H15.out;obtain ⟨l25,b05,b15,b25,b35,e05,e15,e25,e35⟩:=H25.out;obtain ⟨l35,c05,c15,c25,c35,g05,g15,g25,g35⟩:=H35.out))
    all_goals
     go_wp2
     refine bodyPost_ret (v:=.agg #[.bool c,vI 2,vU (M:Int),vI X]) (by simp [results,Tryz.results184,go_sem,World.cell?_setCell_same,World.cell?_setCell_other, *]) rfl ⟨rfl,?_⟩
     exact ((((((((((((B5.out).setCell (by show w.heap.size<=K;omega) _)).setCell (by show w.heap.size<=K;omega) _)).setCell (by show w.heap.size<=w.heap.size+1;omega) _)).setCell (by show w.heap.size<=w.heap.size+1;omega) _)).setCell (by show w.heap.size<=w.heap.size+1;omega) _)).setCell (by show w.heap.size<=w.heap.size+1;omega) _)
  . subst q
    go_wp2
    refine bodyPost_ret (v:=.agg #[.bool c,vI 3,vU 0,vI 0]) (by simp [results,Tryz.results184,go_sem,World.cell?_setCell_same,World.cell?_setCell_other, *]) rfl ⟨rfl,?_⟩
    exact ((((((((BL.out).setCell (by show w.heap.size<=w.heap.size+1;omega) _)).setCell (by show w.heap.size<=w.heap.size+1;omega) _)).setCell (by show w.heap.size<=w.heap.size+1;omega) _)).setCell (by show w.heap.size<=w.heap.size+1;omega) _)
  . subst q
    go_wp2
    refine bodyPost_ret (v:=.agg #[.bool false,vI 4,vU 0,vI 0]) (by simp [results,Tryz.results184,go_sem,World.cell?_setCell_same,World.cell?_setCell_other, *]) rfl ⟨rfl,?_⟩
    exact ((((((((((BL.out).setCell (by show w.heap.size<=K;omega) _)).setCell (by show w.heap.size<=w.heap.size+1;omega) _)).setCell (by show w.heap.size<=w.heap.size+1;omega) _)).setCell (by show w.heap.size<=w.heap.size+1;omega) _)).setCell (by show w.heap.size<=w.heap.size+1;omega) _)
theorem aFL {b:Nat}(h:b<18446744073709551616) (w:World):Cb 184 #[.agg #[vU 9223372036854775808,vU 9218868437227405312,vI 52,vI (-1074)],vU (b:Int)] w (.agg #[.bool (uN 9223372036854775808 9218868437227405312 b),vI (cl 9218868437227405312 (mg 9223372036854775808 b)),vU ((uM 9218868437227405312 52 (mg 9223372036854775808 b):Nat):Int),vI (uE 9218868437227405312 52 (-1074) (mg 9223372036854775808 b))]):=by
 have HN:=fun W=>oR h W
 have HC:=fun W=>cY h W
 have HM:=fun W=>iE h W
 have hl:=nZ (g:=9223372036854775808) (by decide) b
 have HF:=fun W=>aIF hl W
 unfold uN uM uE
 generalize mg 9223372036854775808 b=x at *
 generalize ng 9223372036854775808 b=c at *
 generalize mt 52 x=M at *
 generalize xp 52 (-1074) x=X at *
 have HQ:Hid (cl 9218868437227405312 x=1 \/ cl 9218868437227405312 x=2 \/ cl 9218868437227405312 x=3 \/ cl 9218868437227405312 x=4):=by
  rcases gX 9218868437227405312 x with ⟨_,q⟩ | ⟨_,_,q⟩ | ⟨_,_,q⟩ | ⟨_,q⟩
  . exact .inl q
  . exact .inr (.inl q)
  . exact .inr (.inr (.inl q))
  . exact .inr (.inr (.inr q))
 generalize cl 9218868437227405312 x=C at *
 have H1:Hid (FlB ((w.alloc (.cells #[vU 9223372036854775808,vU 9218868437227405312,vI 52,vI (-1074)] 78)).alloc (.cells #[.bool false,vI 0,vU 0,vI 0] 226)) w.heap.size _ _ _ _):=(FlB.new w _ _ _ _ _).al _
 have H2:Hid (FlB ((w.alloc (.cells #[vU 9223372036854775808,vU 9218868437227405312,vI 52,vI (-1074)] 78)).alloc (.cells #[.bool false,vI 0,vU 0,vI 0] 226)) (w.heap.size+1) _ _ _ _):=FlB.newAt _ _ _ _ _ _ (by simp)
 have HB:Hid (Bl w ((w.alloc (.cells #[vU 9223372036854775808,vU 9218868437227405312,vI 52,vI (-1074)] 78)).alloc (.cells #[.bool false,vI 0,vU 0,vI 0] 226))):=(bz _ _).alloc (by simp) _
 go_enter Tryz.func184,Tryz.ntmps184
 go_upto_region 1 with fail
 go_cut [5] (fun p wx=>∃ K,p=.pointer (some ⟨K,0,none⟩)/\w.heap.size+2<=K/\Bl w wx/\FlB wx w.heap.size (vU 9223372036854775808) (vU 9218868437227405312) (vI 52) (vI (-1074))/\FlB wx (w.heap.size+1) (.bool false) (vI 0) (vU 0) (vI 0)/\FlB wx K (.bool c) (vI C) (vU 0) (vI 0))
 case first =>
  go_region_held3 (fun w'=>w'.cell? ⟨w.heap.size,0,none⟩=some (vU 9223372036854775808)/\w'.cell? ⟨w.heap.size,1,none⟩=some (vU 9218868437227405312)/\w'.cell? ⟨w.heap.size,2,none⟩=some (vI 52)/\w'.cell? ⟨w.heap.size,3,none⟩=some (vI (-1074))) (simp [*,go_sem,World.cell?_alloc_lt])
   (first
    | (go_at_call 67;refine (HN _).mono ?_;rintro x1 w2 ⟨rfl,hb2⟩;obtain ⟨hc2,hf2⟩:=dG hb2;have hz2:=hb2.size;(try simp at hz2);have y2:w.heap.size<w2.heap.size:=(by omega);have v2:w.heap.size+1<w2.heap.size:=(by omega);(first | (have u2:w.heap.size+1+1<w2.heap.size:=(by omega)) | skip);have HB2:Hid (Below _ _ _):=hb2;clear hb2)
    | (go_at_call 42;refine (HC _).mono ?_;rintro x2 w3 ⟨rfl,hb3⟩;obtain ⟨hc3,hf3⟩:=dG hb3;have hz3:=hb3.size;(try simp at hz3);have y3:w.heap.size<w3.heap.size:=(by omega);have v3:w.heap.size+1<w3.heap.size:=(by omega);have HB3:Hid (Below _ _ _):=hb3;clear hb3))
  all_goals
   go_wp2_with fail
   go_meet
   first
    | exact ⟨w3.heap.size,rfl,by omega,(HB.out.drew.trans (HB2.out.mono (by simp;omega))).trans (HB3.out.mono (by omega)) |>.alloc (by omega) _,((H1.out.drew.step HB2.out).step HB3.out).al _,((H2.out.drew.step HB2.out).step HB3.out).al _,FlB.new _ _ _ _ _ _⟩
    | exact ⟨w2.heap.size,rfl,by omega,((((((HB.out.drew.trans (HB2.out.mono (by simp;omega))).alloc (by omega) _).trans (HB3.out.mono (by simp;omega))).setCell (by show w.heap.size<=w2.heap.size;omega) _).setCell (by show w.heap.size<=w2.heap.size;omega) _).setCell (by show w.heap.size<=w2.heap.size;omega) _).setCell (by show w.heap.size<=w2.heap.size;omega) _,(((((H1.out.drew.step HB2.out).al _).step HB3.out).far _ _ (by show w.heap.size ≠ w2.heap.size;omega)).far _ _ (by show w.heap.size ≠ w2.heap.size;omega)).far _ _ (by show w.heap.size ≠ w2.heap.size;omega) |>.far _ _ (by show w.heap.size ≠ w2.heap.size;omega),(((((H2.out.drew.step HB2.out).al _).step HB3.out).far _ _ (by show w.heap.size+1 ≠ w2.heap.size;omega)).far _ _ (by show w.heap.size+1 ≠ w2.heap.size;omega)).far _ _ (by show w.heap.size+1 ≠ w2.heap.size;omega) |>.far _ _ (by show w.heap.size+1 ≠ w2.heap.size;omega),(((((FlB.new _ _ _ _ _ _).step HB3.out).set0 _).set1 _).set2 _).set3 _⟩
    | exact ⟨w.heap.size+1+1,rfl,by omega,(((((HB.out.alloc (by simp;omega) _).drew.trans (HB2.out.mono (by simp;omega))).trans (HB3.out.mono (by omega))).setCell (by show w.heap.size<=w.heap.size+1+1;omega) _).setCell (by show w.heap.size<=w.heap.size+1+1;omega) _).setCell (by show w.heap.size<=w.heap.size+1+1;omega) _ |>.setCell (by show w.heap.size<=w.heap.size+1+1;omega) _,(((((H1.out.al _).drew.step HB2.out).step HB3.out).far _ _ (by show w.heap.size ≠ w.heap.size+1+1;omega)).far _ _ (by show w.heap.size ≠ w.heap.size+1+1;omega)).far _ _ (by show w.heap.size ≠ w.heap.size+1+1;omega) |>.far _ _ (by show w.heap.size ≠ w.heap.size+1+1;omega),(((((H2.out.al _).drew.step HB2.out).step HB3.out).far _ _ (by show w.heap.size+1 ≠ w.heap.size+1+1;omega)).far _ _ (by show w.heap.size+1 ≠ w.heap.size+1+1;omega)).far _ _ (by show w.heap.size+1 ≠ w.heap.size+1+1;omega) |>.far _ _ (by show w.heap.size+1 ≠ w.heap.size+1+1;omega),((((((FlB.newAt _ _ _ _ _ _ (by simp)).drew.step HB2.out).step HB3.out).set0 _).set1 _).set2 _).set3 _⟩
 case rest =>
  clear H1 H2 HB HN HC
  obtain ⟨K,rfl,hK,bl,h1,h2,h3⟩:=hcut
  have BL:Hid (Bl w wc):=bl
  have H1:Hid (FlB _ _ _ _ _ _):=h1
  have H2:Hid (FlB _ _ _ _ _ _):=h2
  have H3:Hid (FlB _ _ _ _ _ _):=h3
  obtain ⟨l1,a0,a1,a2,a3,_,_,_,_⟩:=h1
  obtain ⟨l2,b0,b1,b2,b3,e0,e1,e2,e3⟩:=h2
  obtain ⟨l3,c0,c1,c2,c3,g0,g1,g2,g3⟩:=h3
  have n1:¬ K=w.heap.size+1:=by omega
  have n2:¬ w.heap.size+1=K:=by omega
  have n3:¬ K=w.heap.size:=by omega
  have n4:¬ w.heap.size=K:=by omega
  clear bl
  rcases HQ.out with q | q | q | q
  . subst q
    go_wp2
    refine bodyPost_ret (v:=.agg #[.bool c,vI 1,vU 0,vI 0]) (by simp [results,Tryz.results184,go_sem,World.cell?_setCell_same,World.cell?_setCell_other, *]) rfl ⟨rfl,?_⟩
    exact (((BL.out.setCell (by show w.heap.size<=w.heap.size+1;omega) _).setCell (by show w.heap.size<=w.heap.size+1;omega) _).setCell (by show w.heap.size<=w.heap.size+1;omega) _).setCell (by show w.heap.size<=w.heap.size+1;omega) _
  . subst q
    go_wp2
    go_region_held3 (fun w'=>w'.cell? ⟨w.heap.size,0,none⟩=some (vU 9223372036854775808)/\w'.cell? ⟨w.heap.size,1,none⟩=some (vU 9218868437227405312)/\w'.cell? ⟨w.heap.size,2,none⟩=some (vI 52)/\w'.cell? ⟨w.heap.size,3,none⟩=some (vI (-1074))) (simp [*,go_sem])
     (first
      | (go_at_call 65;refine (HM _).mono ?_;rintro x1 w4 ⟨rfl,hb4⟩;have H14:Hid (FlB _ _ _ _ _ _):=H1.out.drew.step hb4;have H24:Hid (FlB _ _ _ _ _ _):=H2.out.drew.step hb4;have H34:Hid (FlB _ _ _ _ _ _):=H3.out.drew.step hb4;have B4:Hid (Bl w w4):=BL.out.drew.trans (hb4.mono (Nat.le_of_lt l1));clear hb4;obtain ⟨l14,a04,a14,a24,a34,_,_,_,_⟩:=H14.out)
      | (go_at_call 222;refine (HF _).mono ?_;rintro x2 w5 ⟨rfl,hb5⟩;have H15:Hid (FlB _ _ _ _ _ _):=H14.out.step hb5;have H25:Hid (FlB _ _ _ _ _ _):=H24.out.step hb5;have H35:Hid (FlB _ _ _ _ _ _):=H34.out.step hb5;have B5:Hid (Bl w w5):=B4.out.trans (hb5.mono (Nat.le_of_lt l14));clear hb5;obtain ⟨l15,a05,a15,a25,a35,_,_,_,_⟩:=H15.out;obtain ⟨l25,b05,b15,b25,b35,e05,e15,e25,e35⟩:=H25.out;obtain ⟨l35,c05,c15,c25,c35,g05,g15,g25,g35⟩:=H35.out))
    all_goals
     go_wp2
     refine bodyPost_ret (v:=.agg #[.bool c,vI 2,vU (M:Int),vI X]) (by simp [results,Tryz.results184,go_sem,World.cell?_setCell_same,World.cell?_setCell_other, *]) rfl ⟨rfl,?_⟩
     exact ((((((((((((B5.out).setCell (by show w.heap.size<=K;omega) _)).setCell (by show w.heap.size<=K;omega) _)).setCell (by show w.heap.size<=w.heap.size+1;omega) _)).setCell (by show w.heap.size<=w.heap.size+1;omega) _)).setCell (by show w.heap.size<=w.heap.size+1;omega) _)).setCell (by show w.heap.size<=w.heap.size+1;omega) _)
  . subst q
    go_wp2
    refine bodyPost_ret (v:=.agg #[.bool c,vI 3,vU 0,vI 0]) (by simp [results,Tryz.results184,go_sem,World.cell?_setCell_same,World.cell?_setCell_other, *]) rfl ⟨rfl,?_⟩
    exact ((((((((BL.out).setCell (by show w.heap.size<=w.heap.size+1;omega) _)).setCell (by show w.heap.size<=w.heap.size+1;omega) _)).setCell (by show w.heap.size<=w.heap.size+1;omega) _)).setCell (by show w.heap.size<=w.heap.size+1;omega) _)
  . subst q
    go_wp2
    refine bodyPost_ret (v:=.agg #[.bool false,vI 4,vU 0,vI 0]) (by simp [results,Tryz.results184,go_sem,World.cell?_setCell_same,World.cell?_setCell_other, *]) rfl ⟨rfl,?_⟩
    exact ((((((((((BL.out).setCell (by show w.heap.size<=K;omega) _)).setCell (by show w.heap.size<=w.heap.size+1;omega) _)).setCell (by show w.heap.size<=w.heap.size+1;omega) _)).setCell (by show w.heap.size<=w.heap.size+1;omega) _)).setCell (by show w.heap.size<=w.heap.size+1;omega) _)
theorem aCQ {s:Int}(h:Sn s) (w:World):Cb 59 #[vI s] w (.tuple #[.agg #[vU 0,vU 0,vI 0,vI 0],.iface 63 (vI 5)]):=by
 have p1:(s == 32)=false:=by simpa using h.1
 have p2:(s == 64)=false:=by simpa using h.2
 clear h
 go_enter Tryz.func59,Tryz.ntmps59
 go_wp2
 exact bodyPost_ret (v:=.tuple #[.agg #[vU 0,vU 0,vI 0,vI 0],.iface 63 (vI 5)]) (by simp [results,Tryz.results59,go_sem]) rfl ⟨rfl,bz _ _⟩
theorem cJ (w:World):Cb 59 #[vI 32] w (.tuple #[.agg #[vU 2147483648,vU 2139095040,vI 23,vI (-149)],.nilIface]):=by
 have H:=fun W=>aCR W
 go_enter Tryz.func59,Tryz.ntmps59
 go_wp2_with fail
 refine (H _).mono ?_
 rintro e w1 ⟨rfl,hb⟩
 have T:Hid (FlB w1 w.heap.size _ _ _ _):=(FlB.new w (vU 0) (vU 0) (vI 0) (vI 0) 78).step hb
 have B:Hid (Bl w w1):=(bz _ _).trans (hb.mono (by simp))
 clear hb
 obtain ⟨l,a0,a1,a2,a3,f0,f1,f2,f3⟩:=T.out
 go_wp2
 exact bodyPost_ret (v:=.tuple #[.agg #[vU 2147483648,vU 2139095040,vI 23,vI (-149)],.nilIface]) (by simp [results,Tryz.results59,go_sem,World.cell?_setCell_same,World.cell?_setCell_other, *]) rfl ⟨rfl,(((B.out.setCell (Nat.le_refl _) _).setCell (Nat.le_refl _) _).setCell (Nat.le_refl _) _).setCell (Nat.le_refl _) _⟩
theorem cK (w:World):Cb 59 #[vI 64] w (.tuple #[.agg #[vU 9223372036854775808,vU 9218868437227405312,vI 52,vI (-1074)],.nilIface]):=by
 have H:=fun W=>aCa W
 go_enter Tryz.func59,Tryz.ntmps59
 go_wp2_with fail
 refine (H _).mono ?_
 rintro e w1 ⟨rfl,hb⟩
 have T:Hid (FlB w1 w.heap.size _ _ _ _):=(FlB.new w (vU 0) (vU 0) (vI 0) (vI 0) 78).step hb
 have B:Hid (Bl w w1):=(bz _ _).trans (hb.mono (by simp))
 clear hb
 obtain ⟨l,a0,a1,a2,a3,f0,f1,f2,f3⟩:=T.out
 go_wp2
 exact bodyPost_ret (v:=.tuple #[.agg #[vU 9223372036854775808,vU 9218868437227405312,vI 52,vI (-1074)],.nilIface]) (by simp [results,Tryz.results59,go_sem,World.cell?_setCell_same,World.cell?_setCell_other, *]) rfl ⟨rfl,(((B.out.setCell (Nat.le_refl _) _).setCell (Nat.le_refl _) _).setCell (Nat.le_refl _) _).setCell (Nat.le_refl _) _⟩
theorem aA5 {s:Int}(h:Sn s) (b:Int) (w:World):Cb 33 #[vU b,vI s] w (.tuple #[.agg #[vU 0,vU 0,vI 0,vI 0],.iface 63 (vI 5)]):=by
 have H:=fun W=>aCQ h W
 go_enter Tryz.func33,Tryz.ntmps33
 go_wp2_with fail
 refine (H _).mono ?_
 rintro e w1 ⟨rfl,hb⟩
 have T:Hid (FlB w1 w.heap.size _ _ _ _):=(FlB.new w (vU 0) (vU 0) (vI 0) (vI 0) 78).step hb
 have B:Hid (Bl w w1):=(bz _ _).trans (hb.mono (by simp))
 clear hb
 obtain ⟨l,a0,a1,a2,a3,f0,f1,f2,f3⟩:=T.out
 go_wp2
 exact bodyPost_ret (v:=.tuple #[.agg #[vU 0,vU 0,vI 0,vI 0],.iface 63 (vI 5)]) (by simp [results,Tryz.results33,go_sem,World.cell?_setCell_same,World.cell?_setCell_other,World.cell?_alloc_lt, *]) rfl ⟨rfl,(((((B.out).setCell (Nat.le_refl _) _).setCell (Nat.le_refl _) _).setCell (Nat.le_refl _) _).setCell (Nat.le_refl _) _).alloc (by simp;omega) _⟩
theorem aX {b:Nat}(h:b<4294967296) (w:World):Cb 33 #[vU (b:Int),vI 32] w (.tuple #[.agg #[vU 2147483648,vU 2139095040,vI 23,vI (-149)],.nilIface]):=by
 have H:=fun W=>cJ W
 have hor:bits BinOp.or IntKind.u64 2147483648 2147483647=4294967295:=by decide
 have q:¬ (4294967295:Int)<(b:Int):=by omega
 go_enter Tryz.func33,Tryz.ntmps33
 go_wp2_with fail
 refine (H _).mono ?_
 rintro e w1 ⟨rfl,hb⟩
 have T:Hid (FlB w1 w.heap.size _ _ _ _):=(FlB.new w (vU 0) (vU 0) (vI 0) (vI 0) 78).step hb
 have B:Hid (Bl w w1):=(bz _ _).trans (hb.mono (by simp))
 clear hb
 obtain ⟨l,a0,a1,a2,a3,f0,f1,f2,f3⟩:=T.out
 go_wp2
 exact bodyPost_ret (v:=.tuple #[.agg #[vU 2147483648,vU 2139095040,vI 23,vI (-149)],.nilIface]) (by simp [results,Tryz.results33,go_sem,World.cell?_setCell_same,World.cell?_setCell_other,World.cell?_alloc_lt, *]) rfl ⟨rfl,(((((B.out).setCell (Nat.le_refl _) _).setCell (Nat.le_refl _) _).setCell (Nat.le_refl _) _).setCell (Nat.le_refl _) _).alloc (by simp;omega) _⟩
theorem aY {b:Nat}(h:b<18446744073709551616) (w:World):Cb 33 #[vU (b:Int),vI 64] w (.tuple #[.agg #[vU 9223372036854775808,vU 9218868437227405312,vI 52,vI (-1074)],.nilIface]):=by
 have H:=fun W=>cK W
 have hor:bits BinOp.or IntKind.u64 9223372036854775808 9223372036854775807=18446744073709551615:=by decide
 have q:¬ (18446744073709551615:Int)<(b:Int):=by omega
 go_enter Tryz.func33,Tryz.ntmps33
 go_wp2_with fail
 refine (H _).mono ?_
 rintro e w1 ⟨rfl,hb⟩
 have T:Hid (FlB w1 w.heap.size _ _ _ _):=(FlB.new w (vU 0) (vU 0) (vI 0) (vI 0) 78).step hb
 have B:Hid (Bl w w1):=(bz _ _).trans (hb.mono (by simp))
 clear hb
 obtain ⟨l,a0,a1,a2,a3,f0,f1,f2,f3⟩:=T.out
 go_wp2
 exact bodyPost_ret (v:=.tuple #[.agg #[vU 9223372036854775808,vU 9218868437227405312,vI 52,vI (-1074)],.nilIface]) (by simp [results,Tryz.results33,go_sem,World.cell?_setCell_same,World.cell?_setCell_other,World.cell?_alloc_lt, *]) rfl ⟨rfl,(((((B.out).setCell (Nat.le_refl _) _).setCell (Nat.le_refl _) _).setCell (Nat.le_refl _) _).setCell (Nat.le_refl _) _).alloc (by simp;omega) _⟩
theorem xL {s:Int}(h:Sn s) (b:Int) (w:World):Cb 19 #[vU b,vI s] w (.iface 63 (vI 5)):=by
 have H:=fun W=>aA5 h b W
 clear h
 go_enter Tryz.func19,Tryz.ntmps19
 go_wp2_with fail
 refine (H _).mono ?_
 rintro e w1 ⟨rfl,hb⟩
 have B:Hid (Bl w w1):=hb
 have l:=hb.size
 clear hb
 go_wp2
 go_ret
 exact ⟨rfl,B.out.alloc l _⟩
theorem aGd {b:Nat}(h:b<4294967296) (w:World):Cb 19 #[vU (b:Int),vI 32] w (.nilIface):=by
 have H:=fun W=>aX h W
 clear h
 go_enter Tryz.func19,Tryz.ntmps19
 go_wp2_with fail
 refine (H _).mono ?_
 rintro e w1 ⟨rfl,hb⟩
 have B:Hid (Bl w w1):=hb
 have l:=hb.size
 clear hb
 go_wp2
 go_ret
 exact ⟨rfl,B.out.alloc l _⟩
theorem aGe {b:Nat}(h:b<18446744073709551616) (w:World):Cb 19 #[vU (b:Int),vI 64] w (.nilIface):=by
 have H:=fun W=>aY h W
 clear h
 go_enter Tryz.func19,Tryz.ntmps19
 go_wp2_with fail
 refine (H _).mono ?_
 rintro e w1 ⟨rfl,hb⟩
 have B:Hid (Bl w w1):=hb
 have l:=hb.size
 clear hb
 go_wp2
 go_ret
 exact ⟨rfl,B.out.alloc l _⟩
theorem aKw {b:Nat}(h:b<4294967296) (w:World):Cb 203 #[vU (b:Int),vI 32] w (.tuple #[vI (cl 2139095040 (mg 2147483648 b)),.nilIface]):=by
 have H:=fun W=>aX h W
 have HC:=fun W=>cX h W
 clear h
 go_enter Tryz.func203,Tryz.ntmps203
 go_wp2_with fail
 refine (H _).mono ?_
 rintro e w1 ⟨rfl,hb⟩
 have B:Hid (Bl w w1):=hb
 have l:=hb.size
 clear hb
 go_wp2_with fail
 refine (HC _).mono ?_
 rintro e w2 ⟨rfl,hb⟩
 have B2:Hid (Bl w w2):=(B.out.alloc l _).trans (hb.mono (by simp;omega))
 clear hb
 go_wp2
 go_ret2
 exact ⟨rfl,B2.out⟩
theorem aKx {b:Nat}(h:b<18446744073709551616) (w:World):Cb 203 #[vU (b:Int),vI 64] w (.tuple #[vI (cl 9218868437227405312 (mg 9223372036854775808 b)),.nilIface]):=by
 have H:=fun W=>aY h W
 have HC:=fun W=>cY h W
 clear h
 go_enter Tryz.func203,Tryz.ntmps203
 go_wp2_with fail
 refine (H _).mono ?_
 rintro e w1 ⟨rfl,hb⟩
 have B:Hid (Bl w w1):=hb
 have l:=hb.size
 clear hb
 go_wp2_with fail
 refine (HC _).mono ?_
 rintro e w2 ⟨rfl,hb⟩
 have B2:Hid (Bl w w2):=(B.out.alloc l _).trans (hb.mono (by simp;omega))
 clear hb
 go_wp2
 go_ret2
 exact ⟨rfl,B2.out⟩
theorem nI {b:Nat}(h:b<4294967296) (w:World):Cb 139 #[vU (b:Int),vI 32] w (.tuple #[.agg #[.bool (uN 2147483648 2139095040 b),vI (cl 2139095040 (mg 2147483648 b)),vU ((uM 2139095040 23 (mg 2147483648 b):Nat):Int),vI (uE 2139095040 23 (-149) (mg 2147483648 b))],.nilIface]):=by
 have H:=fun W=>aX h W
 have HU:=fun W=>aFK h W
 generalize uN 2147483648 2139095040 b=x0 at *
 generalize uM 2139095040 23 (mg 2147483648 b)=x2 at *
 generalize uE 2139095040 23 (-149) (mg 2147483648 b)=x3 at *
 generalize cl 2139095040 (mg 2147483648 b)=x1 at *
 clear h
 go_enter Tryz.func139,Tryz.ntmps139
 go_wp2_with fail
 refine (H _).mono ?_
 rintro e w1 ⟨rfl,hb⟩
 have T:Hid (FlB w1 w.heap.size _ _ _ _):=(FlB.new w (.bool false) (vI 0) (vU 0) (vI 0) 226).step hb
 have B:Hid (Bl w w1):=(bz _ _).trans (hb.mono (by simp))
 clear hb
 obtain ⟨l,a0,a1,a2,a3,f0,f1,f2,f3⟩:=T.out
 go_wp2_with fail
 refine (HU _).mono ?_
 rintro e w2 ⟨rfl,hb⟩
 have T2:Hid (FlB w2 w.heap.size _ _ _ _):=(T.out.al _).step hb
 have B2:Hid (Bl w w2):=(B.out.alloc (Nat.le_of_lt l) _).trans (hb.mono (by simp;omega))
 clear hb
 obtain ⟨l2,b0,b1,b2,b3,g0,g1,g2,g3⟩:=T2.out
 go_wp2
 exact bodyPost_ret (v:=.tuple #[.agg #[.bool x0,vI x1,vU (x2:Int),vI x3],.nilIface]) (by simp [results,Tryz.results139,go_sem,World.cell?_setCell_same,World.cell?_setCell_other, *]) rfl ⟨rfl,((((B2.out).setCell (Nat.le_refl _) _).setCell (Nat.le_refl _) _).setCell (Nat.le_refl _) _).setCell (Nat.le_refl _) _⟩
theorem nJ {b:Nat}(h:b<18446744073709551616) (w:World):Cb 139 #[vU (b:Int),vI 64] w (.tuple #[.agg #[.bool (uN 9223372036854775808 9218868437227405312 b),vI (cl 9218868437227405312 (mg 9223372036854775808 b)),vU ((uM 9218868437227405312 52 (mg 9223372036854775808 b):Nat):Int),vI (uE 9218868437227405312 52 (-1074) (mg 9223372036854775808 b))],.nilIface]):=by
 have H:=fun W=>aY h W
 have HU:=fun W=>aFL h W
 generalize uN 9223372036854775808 9218868437227405312 b=x0 at *
 generalize uM 9218868437227405312 52 (mg 9223372036854775808 b)=x2 at *
 generalize uE 9218868437227405312 52 (-1074) (mg 9223372036854775808 b)=x3 at *
 generalize cl 9218868437227405312 (mg 9223372036854775808 b)=x1 at *
 clear h
 go_enter Tryz.func139,Tryz.ntmps139
 go_wp2_with fail
 refine (H _).mono ?_
 rintro e w1 ⟨rfl,hb⟩
 have T:Hid (FlB w1 w.heap.size _ _ _ _):=(FlB.new w (.bool false) (vI 0) (vU 0) (vI 0) 226).step hb
 have B:Hid (Bl w w1):=(bz _ _).trans (hb.mono (by simp))
 clear hb
 obtain ⟨l,a0,a1,a2,a3,f0,f1,f2,f3⟩:=T.out
 go_wp2_with fail
 refine (HU _).mono ?_
 rintro e w2 ⟨rfl,hb⟩
 have T2:Hid (FlB w2 w.heap.size _ _ _ _):=(T.out.al _).step hb
 have B2:Hid (Bl w w2):=(B.out.alloc (Nat.le_of_lt l) _).trans (hb.mono (by simp;omega))
 clear hb
 obtain ⟨l2,b0,b1,b2,b3,g0,g1,g2,g3⟩:=T2.out
 go_wp2
 exact bodyPost_ret (v:=.tuple #[.agg #[.bool x0,vI x1,vU (x2:Int),vI x3],.nilIface]) (by simp [results,Tryz.results139,go_sem,World.cell?_setCell_same,World.cell?_setCell_other, *]) rfl ⟨rfl,((((B2.out).setCell (Nat.le_refl _) _).setCell (Nat.le_refl _) _).setCell (Nat.le_refl _) _).setCell (Nat.le_refl _) _⟩
theorem aIh (c:Bool)  (w:World):Cb 47 #[.bool c,vI 32] w (.tuple #[vU ((sgd 2147483648 c 2139095040:Nat):Int),.nilIface]):=by
 have H:=fun W=>cJ W
 have HS:=fun W=>mX (x:=2139095040) (by decide) c W
 rw [show ((2139095040:Nat):Int)=2139095040 from rfl] at HS
 generalize sgd 2147483648 c 2139095040=r at *
 go_enter Tryz.func47,Tryz.ntmps47
 go_wp2_with fail
 refine (H _).mono ?_
 rintro e w1 ⟨rfl,hb⟩
 have B:Hid (Bl w w1):=hb
 have l:=hb.size
 clear hb
 go_wp2_with fail
 refine (HS _).mono ?_
 rintro e w2 ⟨rfl,hb⟩
 have B2:Hid (Bl w w2):=(B.out.alloc l _).trans (hb.mono (by simp;omega))
 clear hb
 go_wp2
 go_ret2
 exact ⟨rfl,B2.out⟩
theorem aIi (c:Bool)  (w:World):Cb 47 #[.bool c,vI 64] w (.tuple #[vU ((sgd 9223372036854775808 c 9218868437227405312:Nat):Int),.nilIface]):=by
 have H:=fun W=>cK W
 have HS:=fun W=>mY (x:=9218868437227405312) (by decide) c W
 rw [show ((9218868437227405312:Nat):Int)=9218868437227405312 from rfl] at HS
 generalize sgd 9223372036854775808 c 9218868437227405312=r at *
 go_enter Tryz.func47,Tryz.ntmps47
 go_wp2_with fail
 refine (H _).mono ?_
 rintro e w1 ⟨rfl,hb⟩
 have B:Hid (Bl w w1):=hb
 have l:=hb.size
 clear hb
 go_wp2_with fail
 refine (HS _).mono ?_
 rintro e w2 ⟨rfl,hb⟩
 have B2:Hid (Bl w w2):=(B.out.alloc l _).trans (hb.mono (by simp;omega))
 clear hb
 go_wp2
 go_ret2
 exact ⟨rfl,B2.out⟩
theorem aF8 (c:Bool)  (w:World):Cb 49 #[.bool c,vI 32] w (.tuple #[vU ((sgd 2147483648 c 0:Nat):Int),.nilIface]):=by
 have H:=fun W=>cJ W
 have HS:=fun W=>mX (x:=0) (by decide) c W
 rw [show ((0:Nat):Int)=0 from rfl] at HS
 generalize sgd 2147483648 c 0=r at *
 go_enter Tryz.func49,Tryz.ntmps49
 go_wp2_with fail
 refine (H _).mono ?_
 rintro e w1 ⟨rfl,hb⟩
 have B:Hid (Bl w w1):=hb
 have l:=hb.size
 clear hb
 go_wp2_with fail
 refine (HS _).mono ?_
 rintro e w2 ⟨rfl,hb⟩
 have B2:Hid (Bl w w2):=(B.out.alloc l _).trans (hb.mono (by simp;omega))
 clear hb
 go_wp2
 go_ret2
 exact ⟨rfl,B2.out⟩
theorem aF9 (c:Bool)  (w:World):Cb 49 #[.bool c,vI 64] w (.tuple #[vU ((sgd 9223372036854775808 c 0:Nat):Int),.nilIface]):=by
 have H:=fun W=>cK W
 have HS:=fun W=>mY (x:=0) (by decide) c W
 rw [show ((0:Nat):Int)=0 from rfl] at HS
 generalize sgd 9223372036854775808 c 0=r at *
 go_enter Tryz.func49,Tryz.ntmps49
 go_wp2_with fail
 refine (H _).mono ?_
 rintro e w1 ⟨rfl,hb⟩
 have B:Hid (Bl w w1):=hb
 have l:=hb.size
 clear hb
 go_wp2_with fail
 refine (HS _).mono ?_
 rintro e w2 ⟨rfl,hb⟩
 have B2:Hid (Bl w w2):=(B.out.alloc l _).trans (hb.mono (by simp;omega))
 clear hb
 go_wp2
 go_ret2
 exact ⟨rfl,B2.out⟩
theorem xC  (w:World):Cb 137 #[vI 32] w (.tuple #[vU 2139095039,.nilIface]):=by
 have H:=fun W=>cJ W
 go_enter Tryz.func137,Tryz.ntmps137
 go_wp2_with fail
 refine (H _).mono ?_
 rintro e w1 ⟨rfl,hb⟩
 have B:Hid (Bl w w1):=hb
 have l:=hb.size
 clear hb
 go_wp2
 go_ret2
 exact ⟨rfl,B.out.alloc l _⟩
theorem xD  (w:World):Cb 137 #[vI 64] w (.tuple #[vU 9218868437227405311,.nilIface]):=by
 have H:=fun W=>cK W
 go_enter Tryz.func137,Tryz.ntmps137
 go_wp2_with fail
 refine (H _).mono ?_
 rintro e w1 ⟨rfl,hb⟩
 have B:Hid (Bl w w1):=hb
 have l:=hb.size
 clear hb
 go_wp2
 go_ret2
 exact ⟨rfl,B.out.alloc l _⟩
theorem tP  (w:World):Cb 138 #[vI 32] w (.tuple #[vU 1,.nilIface]):=by
 have H:=fun W=>cJ W
 go_enter Tryz.func138,Tryz.ntmps138
 go_wp2_with fail
 refine (H _).mono ?_
 rintro e w1 ⟨rfl,hb⟩
 have B:Hid (Bl w w1):=hb
 have l:=hb.size
 clear hb
 go_wp2
 go_ret2
 exact ⟨rfl,B.out.alloc l _⟩
theorem tQ  (w:World):Cb 138 #[vI 64] w (.tuple #[vU 1,.nilIface]):=by
 have H:=fun W=>cK W
 go_enter Tryz.func138,Tryz.ntmps138
 go_wp2_with fail
 refine (H _).mono ?_
 rintro e w1 ⟨rfl,hb⟩
 have B:Hid (Bl w w1):=hb
 have l:=hb.size
 clear hb
 go_wp2
 go_ret2
 exact ⟨rfl,B.out.alloc l _⟩
theorem aI9 {b s:Int}{c:Int}(q1:(c == 4)=false) (q2:(c == 3)=false) (h0:0<=b) (h1:b+1<18446744073709551616) (HC:∀ W,Cb 203 #[vU b,vI s] W (.tuple #[vI c,.nilIface])) (w:World):Cb 160 #[vU b,vI s] w (.tuple #[vU (b+1),.nilIface]):=by
 go_enter Tryz.func160,Tryz.ntmps160
 go_wp2_with fail
 refine (HC _).mono ?_
 rintro e w1 ⟨rfl,hb⟩
 have B:Hid (Bl w w1):=hb
 clear hb
 go_wp2
 go_ret2
 exact ⟨rfl,B.out⟩
theorem jU {x p n:Int}(hx:aD x) (hn:aM x=n) (h0:-9223372036854775808<=p) (h1:p<=5000) (w:World):Cb 257 #[.agg #[vU 2147483648,vU 2139095040,vI 23,vI (-149)],vU x,vI p] w (vI (min (24 - n) (p+149))):=by
 have HL:=fun W=>aO x hx W
 rw [hn] at HL
 have b:=jJ x hx.1 hx.2
 rw [hn] at b
 obtain ⟨n0,n1⟩:=b
 clear hn hx
 obtain ⟨R,hR⟩:∃ R,R=min (24 - n) (p+149):=⟨_,rfl⟩
 have i1:IntKind.i64.wrap (p+149)=p+149:=IntWalk.i64_in _ ⟨by omega,by omega⟩
 have i2:IntKind.i64.wrap 24=24:=by decide
 have i3:IntKind.i64.wrap (24 - n)=24 - n:=IntWalk.i64_in _ ⟨by omega,by omega⟩
 have E:(if IntKind.i64.wrap (p+149)<IntKind.i64.wrap (IntKind.i64.wrap 24 - n) then IntKind.i64.wrap (p+149) else IntKind.i64.wrap (IntKind.i64.wrap 24 - n))=R:=by
  rw [i2,i1,i3,hR]
  split <;> omega
 rw [<- hR]
 clear i1 i2 i3 hR h0 h1 n0 n1
 go_enter Tryz.func257,Tryz.ntmps257
 go_wp2
 go_region_held3 (fun w'=>w'.cell? ⟨w.heap.size,0,none⟩=some (vU 2147483648)/\w'.cell? ⟨w.heap.size,1,none⟩=some (vU 2139095040)/\w'.cell? ⟨w.heap.size,2,none⟩=some (vI 23)/\w'.cell? ⟨w.heap.size,3,none⟩=some (vI (-149))) (simp [*,go_sem])
  (first
   | (go_at_call 140;refine (HL _).mono ?_;rintro x1 w2 ⟨rfl,hh⟩;subst hh))
 go_wp2
 go_ret
 exact ⟨rfl,(bz _ _).drew⟩
theorem yZ {x k:Nat}{p:Int}(hp:p=(-149)+(k:Int)) (hk:k<=255) (hx:x<=16777216) (w:World):Cb 259 #[.agg #[vU 2147483648,vU 2139095040,vI 23,vI (-149)],vU (x:Int),vI p] w (vU ((k * 8388608+x:Nat):Int)):=by
 have e1:p+149=(k:Int):=by omega
 have e2:((k:Int) * 8388608)+(x:Int)=((k * 8388608+x:Nat):Int):=by omega
 obtain ⟨Z,hZ⟩:∃ Z,Z=k * 8388608+x:=⟨_,rfl⟩
 rw [<- hZ] at e2 ⊢
 have hz:Z<18446744073709551616:=by omega
 clear hZ hp
 go_enter Tryz.func259,Tryz.ntmps259
 go_wp2
 go_ret
 exact ⟨rfl,bz _ _⟩
theorem jV {x p n:Int}(hx:aD x) (hn:aM x=n) (h0:-9223372036854775808<=p) (h1:p<=5000) (w:World):Cb 257 #[.agg #[vU 9223372036854775808,vU 9218868437227405312,vI 52,vI (-1074)],vU x,vI p] w (vI (min (53 - n) (p+1074))):=by
 have HL:=fun W=>aO x hx W
 rw [hn] at HL
 have b:=jJ x hx.1 hx.2
 rw [hn] at b
 obtain ⟨n0,n1⟩:=b
 clear hn hx
 obtain ⟨R,hR⟩:∃ R,R=min (53 - n) (p+1074):=⟨_,rfl⟩
 have i1:IntKind.i64.wrap (p+1074)=p+1074:=IntWalk.i64_in _ ⟨by omega,by omega⟩
 have i2:IntKind.i64.wrap 53=53:=by decide
 have i3:IntKind.i64.wrap (53 - n)=53 - n:=IntWalk.i64_in _ ⟨by omega,by omega⟩
 have E:(if IntKind.i64.wrap (p+1074)<IntKind.i64.wrap (IntKind.i64.wrap 53 - n) then IntKind.i64.wrap (p+1074) else IntKind.i64.wrap (IntKind.i64.wrap 53 - n))=R:=by
  rw [i2,i1,i3,hR]
  split <;> omega
 rw [<- hR]
 clear i1 i2 i3 hR h0 h1 n0 n1
 go_enter Tryz.func257,Tryz.ntmps257
 go_wp2
 go_region_held3 (fun w'=>w'.cell? ⟨w.heap.size,0,none⟩=some (vU 9223372036854775808)/\w'.cell? ⟨w.heap.size,1,none⟩=some (vU 9218868437227405312)/\w'.cell? ⟨w.heap.size,2,none⟩=some (vI 52)/\w'.cell? ⟨w.heap.size,3,none⟩=some (vI (-1074))) (simp [*,go_sem])
  (first
   | (go_at_call 140;refine (HL _).mono ?_;rintro x1 w2 ⟨rfl,hh⟩;subst hh))
 go_wp2
 go_ret
 exact ⟨rfl,(bz _ _).drew⟩
theorem zA {x k:Nat}{p:Int}(hp:p=(-1074)+(k:Int)) (hk:k<=2047) (hx:x<=9007199254740992) (w:World):Cb 259 #[.agg #[vU 9223372036854775808,vU 9218868437227405312,vI 52,vI (-1074)],vU (x:Int),vI p] w (vU ((k * 4503599627370496+x:Nat):Int)):=by
 have e1:p+1074=(k:Int):=by omega
 have e2:((k:Int) * 4503599627370496)+(x:Int)=((k * 4503599627370496+x:Nat):Int):=by omega
 obtain ⟨Z,hZ⟩:∃ Z,Z=k * 4503599627370496+x:=⟨_,rfl⟩
 rw [<- hZ] at e2 ⊢
 have hz:Z<18446744073709551616:=by omega
 clear hZ hp
 go_enter Tryz.func259,Tryz.ntmps259
 go_wp2
 go_ret
 exact ⟨rfl,bz _ _⟩
theorem bF (m:Nat) (h:m<18446744073709551616):aM (m:Int)=(ln m:Int):=by
 by_cases z:m=0
 . subst z;decide
 . obtain ⟨n,a,_,b,c⟩:=aW (m:Int) (by omega) (by omega)
   rw [a,aCl (m:=m) (k:=n) (by exact_mod_cast b) (by exact_mod_cast c)]
   omega
theorem aH {m:Nat}(h:m<18446744073709551616):aD (m:Int):=⟨by omega,by omega⟩
theorem vS {m:Nat}{p:Int}(m0:((m:Int) == 0)=false) (h:127<p) (w:World):Cb 223 #[.agg #[vU 2147483648,vU 2139095040,vI 23,vI (-149)],vU (m:Int),vI p] w (.tuple #[vU 0,.iface 63 (vI 4)]):=by
 have HM:=fun W=>gN W
 have i1:IntKind.i64.wrap 127=127:=by decide
 go_enter Tryz.func223,Tryz.ntmps223
 go_wp2
 go_region_held3 (fun w'=>w'.cell? ⟨w.heap.size,0,none⟩=some (vU 2147483648)/\w'.cell? ⟨w.heap.size,1,none⟩=some (vU 2139095040)/\w'.cell? ⟨w.heap.size,2,none⟩=some (vI 23)/\w'.cell? ⟨w.heap.size,3,none⟩=some (vI (-149))) (simp [*,go_sem])
  (first
   | (go_at_call 256;refine (HM _).mono ?_;rintro x1 w2 ⟨rfl,hb⟩;have T2:Hid (ShB w w2 _ _ _ _):=(ShB.start w (vU 2147483648) (vU 2139095040) (vI 23) (vI (-149)) 78).drew.step hb;clear hb;obtain ⟨z2,_,a0,a1,a2,a3⟩:=T2.out))
 go_wp2
 go_ret2
 exact ⟨rfl,T2.out.bel⟩
theorem xW {m:Nat}{p:Int}(hm:m<18446744073709551616) (m0:((m:Int) == 0)=false) (hp0:-9223372036854775808<=p) (hp:¬ 127<p) {u:Int}{z:Nat}(hu:min (24 - (ln m:Int)) (p+149)=u) (hz:cE (m:Int)=(z:Int)) (q:(z:Int) < -u) (w:World) (hT:Tab w):Cb 223 #[.agg #[vU 2147483648,vU 2139095040,vI 23,vI (-149)],vU (m:Int),vI p] w (.tuple #[vU 0,.iface 63 (vI 4)]):=by
 have HM:=fun W=>gN W
 have HR:=fun W=>jU (aH hm) (bF m hm) hp0 (by omega:p<=5000) W
 have HZ:=fun W (g:Tab W)=>bI (m:Int) (aH hm) W g
 have HT:Hid (Tab w):=hT
 rw [hz] at HZ
 rw [hu] at HR
 have i1:IntKind.i64.wrap 127=127:=by decide
 clear hT
 have u0:-9223372036854775807<=u:=by have:=(aE m 64).2 hm;omega
 have u1:u<=24:=by omega
 clear hu hz hm
 go_enter Tryz.func223,Tryz.ntmps223
 go_wp2
 go_region_held3 (fun w'=>w'.cell? ⟨w.heap.size,0,none⟩=some (vU 2147483648)/\w'.cell? ⟨w.heap.size,1,none⟩=some (vU 2139095040)/\w'.cell? ⟨w.heap.size,2,none⟩=some (vI 23)/\w'.cell? ⟨w.heap.size,3,none⟩=some (vI (-149))) (simp [*,go_sem])
  (first
   | (go_at_call 256;refine (HM _).mono ?_;rintro x1 w2 ⟨rfl,hb⟩;have T2:Hid (ShB w w2 _ _ _ _):=(ShB.start w (vU 2147483648) (vU 2139095040) (vI 23) (vI (-149)) 78).drew.step hb;clear hb;obtain ⟨z2,_,a0,a1,a2,a3⟩:=T2.out))
 go_wp2_with fail
 refine (HR _).mono ?_
 rintro e w3 ⟨rfl,hb⟩
 have T3:Hid (ShB w w3 _ _ _ _):=T2.out.step hb
 clear hb a0 a1 a2 a3
 obtain ⟨z3,_,b0,b1,b2,b3⟩:=T3.out
 go_wp2_with fail
 refine (HZ _ (HT.out.below T3.out.bel HT.out.pos)).mono ?_
 rintro e w3 ⟨rfl,rfl⟩
 go_wp2
 go_ret2
 exact ⟨rfl,T3.out.bel⟩
theorem xY {m:Nat}{p:Int}(hm:m<18446744073709551616) (m0:((m:Int) == 0)=false) (hp0:-9223372036854775808<=p) (hp:¬ 127<p) {u:Int}{z:Nat}(hu:min (24 - (ln m:Int)) (p+149)=u) (hz:cE (m:Int)=(z:Int)) (q:¬ (z:Int) < -u) (q2:104<p - u) (w:World) (hT:Tab w):Cb 223 #[.agg #[vU 2147483648,vU 2139095040,vI 23,vI (-149)],vU (m:Int),vI p] w (.tuple #[vU 0,.iface 63 (vI 4)]):=by
 have HM:=fun W=>gN W
 have HR:=fun W=>jU (aH hm) (bF m hm) hp0 (by omega:p<=5000) W
 have HZ:=fun W (g:Tab W)=>bI (m:Int) (aH hm) W g
 have HT:Hid (Tab w):=hT
 rw [hz] at HZ
 rw [hu] at HR
 have i1:IntKind.i64.wrap 127=127:=by decide
 clear hT
 have u0:-9223372036854775807<=u:=by have:=(aE m 64).2 hm;omega
 have u1:u<=24:=by omega
 have v0:-100000<=p - u:=by have:=(aE m 64).2 hm;omega
 have v1:p - u<=100000:=by have:=(aE m 64).2 hm;omega
 clear hu hz hm
 go_enter Tryz.func223,Tryz.ntmps223
 go_wp2
 go_region_held3 (fun w'=>w'.cell? ⟨w.heap.size,0,none⟩=some (vU 2147483648)/\w'.cell? ⟨w.heap.size,1,none⟩=some (vU 2139095040)/\w'.cell? ⟨w.heap.size,2,none⟩=some (vI 23)/\w'.cell? ⟨w.heap.size,3,none⟩=some (vI (-149))) (simp [*,go_sem])
  (first
   | (go_at_call 256;refine (HM _).mono ?_;rintro x1 w2 ⟨rfl,hb⟩;have T2:Hid (ShB w w2 _ _ _ _):=(ShB.start w (vU 2147483648) (vU 2139095040) (vI 23) (vI (-149)) 78).drew.step hb;clear hb;obtain ⟨z2,_,a0,a1,a2,a3⟩:=T2.out))
 go_wp2_with fail
 refine (HR _).mono ?_
 rintro e w3 ⟨rfl,hb⟩
 have T3:Hid (ShB w w3 _ _ _ _):=T2.out.step hb
 clear hb a0 a1 a2 a3
 obtain ⟨z3,_,b0,b1,b2,b3⟩:=T3.out
 go_wp2_with fail
 refine (HZ _ (HT.out.below T3.out.bel HT.out.pos)).mono ?_
 rintro e w3 ⟨rfl,rfl⟩
 go_wp2_with fail
 refine (HM _).mono ?_
 rintro e w4 ⟨rfl,hb⟩
 have T4:Hid (ShB w w4 _ _ _ _):=T3.out.step hb
 clear hb b0 b1 b2 b3
 obtain ⟨z4,_,c0,c1,c2,c3⟩:=T4.out
 go_wp2
 go_ret2
 exact ⟨rfl,T4.out.bel⟩
theorem aAO {m:Nat}{p:Int}(hm:m<18446744073709551616) (m0:((m:Int) == 0)=false) (hp0:-9223372036854775808<=p) (hp:¬ 127<p) {u:Int}{z:Nat}(hu:min (24 - (ln m:Int)) (p+149)=u) (hz:cE (m:Int)=(z:Int)) (q:¬ (z:Int) < -u) (q2:¬ 104<p - u) (g:0<u) {X:Nat}(hX:(m:Int) * 2 ^ u.toNat=(X:Int)) (hx:X<=16777216) {k:Nat}(hk:p - u=(-149)+(k:Int)) (hk2:k<=255) (w:World) (hT:Tab w):Cb 223 #[.agg #[vU 2147483648,vU 2139095040,vI 23,vI (-149)],vU (m:Int),vI p] w (.tuple #[vU ((k * 8388608+X:Nat):Int),.nilIface]):=by
 have HM:=fun W=>gN W
 have HR:=fun W=>jU (aH hm) (bF m hm) hp0 (by omega:p<=5000) W
 have HZ:=fun W (g:Tab W)=>bI (m:Int) (aH hm) W g
 have HT:Hid (Tab w):=hT
 rw [hz] at HZ
 rw [hu] at HR
 have i1:IntKind.i64.wrap 127=127:=by decide
 clear hT
 have u0:-9223372036854775807<=u:=by have:=(aE m 64).2 hm;omega
 have u1:u<=24:=by omega
 have v0:-100000<=p - u:=by have:=(aE m 64).2 hm;omega
 have v1:p - u<=100000:=by have:=(aE m 64).2 hm;omega
 have HY:=fun W=>yZ hk hk2 hx W
 have g1:¬ u<0:=by omega
 have g2:0<=u:=by omega
 have g3:-u<0:=by omega
 have e1:IntKind.i64.wrap (-u) = -u:=IntWalk.i64_in _ ⟨by omega,by omega⟩
 have s1:IntKind.u64.wrap ((m:Int) * 2 ^ u.toNat)=(X:Int):=by rw [hX,IntKind.wrap_u64];omega
 have x1:(if u<0 then 0 else u)=u:=if_neg g1
 have x2:(if -u<0 then 0 else -u)=0:=if_pos g3
 have e2:IntKind.i64.wrap (p - u)=p - u:=IntWalk.i64_in _ ⟨by omega,by omega⟩
 clear hX
 generalize k * 8388608+X=R at *
 clear hu hz hm hk
 go_enter Tryz.func223,Tryz.ntmps223
 go_wp2
 go_region_held3 (fun w'=>w'.cell? ⟨w.heap.size,0,none⟩=some (vU 2147483648)/\w'.cell? ⟨w.heap.size,1,none⟩=some (vU 2139095040)/\w'.cell? ⟨w.heap.size,2,none⟩=some (vI 23)/\w'.cell? ⟨w.heap.size,3,none⟩=some (vI (-149))) (simp [*,go_sem])
  (first
   | (go_at_call 256;refine (HM _).mono ?_;rintro x1 w2 ⟨rfl,hb⟩;have T2:Hid (ShB w w2 _ _ _ _):=(ShB.start w (vU 2147483648) (vU 2139095040) (vI 23) (vI (-149)) 78).drew.step hb;clear hb;obtain ⟨z2,_,a0,a1,a2,a3⟩:=T2.out))
 go_wp2_with fail
 refine (HR _).mono ?_
 rintro e w3 ⟨rfl,hb⟩
 have T3:Hid (ShB w w3 _ _ _ _):=T2.out.step hb
 clear hb a0 a1 a2 a3
 obtain ⟨z3,_,b0,b1,b2,b3⟩:=T3.out
 go_wp2_with fail
 refine (HZ _ (HT.out.below T3.out.bel HT.out.pos)).mono ?_
 rintro e w3 ⟨rfl,rfl⟩
 go_wp2_with fail
 refine (HM _).mono ?_
 rintro e w4 ⟨rfl,hb⟩
 have T4:Hid (ShB w w4 _ _ _ _):=T3.out.step hb
 clear hb b0 b1 b2 b3
 obtain ⟨z4,_,c0,c1,c2,c3⟩:=T4.out
 go_wp2
 go_region_held3 (fun w'=>w'.cell? ⟨w.heap.size,0,none⟩=some (vU 2147483648)/\w'.cell? ⟨w.heap.size,1,none⟩=some (vU 2139095040)/\w'.cell? ⟨w.heap.size,2,none⟩=some (vI 23)/\w'.cell? ⟨w.heap.size,3,none⟩=some (vI (-149))) (simp [*,go_sem])
  (first
   | (go_at_call 259;refine (HY _).mono ?_;rintro x5 w5 ⟨rfl,hb⟩;have T5:Hid (ShB w w5 _ _ _ _):=T4.out.drew.step hb;clear hb;obtain ⟨z5,_,d0,d1,d2,d3⟩:=T5.out))
 all_goals
  go_wp2
  go_ret2
  exact ⟨rfl,T5.out.bel⟩
theorem vO {m:Nat}{p:Int}(hm:m<18446744073709551616) (m0:((m:Int) == 0)=false) (hp0:-9223372036854775808<=p) (hp:¬ 127<p) {v:Int}{z:Nat}(hu:min (24 - (ln m:Int)) (p+149)=(-v)) (hz:cE (m:Int)=(z:Int)) (q:¬ (z:Int)<v) (q2:¬ 104<p+v) (g:0<v) (z1:z<64) {X:Nat}(hX:(m:Int) / 2 ^ v.toNat=(X:Int)) (hx:X<=16777216) {k:Nat}(hk:p+v=(-149)+(k:Int)) (hk2:k<=255) (w:World) (hT:Tab w):Cb 223 #[.agg #[vU 2147483648,vU 2139095040,vI 23,vI (-149)],vU (m:Int),vI p] w (.tuple #[vU ((k * 8388608+X:Nat):Int),.nilIface]):=by
 have HM:=fun W=>gN W
 have HR:=fun W=>jU (aH hm) (bF m hm) hp0 (by omega:p<=5000) W
 have HZ:=fun W (g:Tab W)=>bI (m:Int) (aH hm) W g
 have HT:Hid (Tab w):=hT
 rw [hz] at HZ
 rw [hu] at HR
 have i1:IntKind.i64.wrap 127=127:=by decide
 clear hT
 have u0:-9223372036854775807<=(-v):=by have:=(aE m 64).2 hm;omega
 have u1:(-v)<=24:=by omega
 have v0:-100000<=p+v:=by have:=(aE m 64).2 hm;omega
 have v1:p+v<=100000:=by have:=(aE m 64).2 hm;omega
 have HY:=fun W=>yZ hk hk2 hx W
 have g1:¬ v<0:=by omega
 have g2:0<=v:=by omega
 have g3:-v<0:=by omega
 have e1:IntKind.i64.wrap v=v:=IntWalk.i64_in _ ⟨by omega,by omega⟩
 have s0:IntKind.u64.wrap (m:Int)=(m:Int):=by rw [IntKind.wrap_u64];omega
 have s1:(m:Int) / 2 ^ min v.toNat 64=(X:Int):=by rw [Nat.min_eq_left (by omega),hX]
 have x1:(if -v<0 then 0 else -v)=0:=if_pos g3
 have x2:(if v<0 then 0 else v)=v:=if_neg g1
 have e2:IntKind.i64.wrap (p+v)=p+v:=IntWalk.i64_in _ ⟨by omega,by omega⟩
 clear hX z1
 generalize k * 8388608+X=R at *
 clear hu hz hm hk
 go_enter Tryz.func223,Tryz.ntmps223
 go_wp2
 go_region_held3 (fun w'=>w'.cell? ⟨w.heap.size,0,none⟩=some (vU 2147483648)/\w'.cell? ⟨w.heap.size,1,none⟩=some (vU 2139095040)/\w'.cell? ⟨w.heap.size,2,none⟩=some (vI 23)/\w'.cell? ⟨w.heap.size,3,none⟩=some (vI (-149))) (simp [*,go_sem])
  (first
   | (go_at_call 256;refine (HM _).mono ?_;rintro x1 w2 ⟨rfl,hb⟩;have T2:Hid (ShB w w2 _ _ _ _):=(ShB.start w (vU 2147483648) (vU 2139095040) (vI 23) (vI (-149)) 78).drew.step hb;clear hb;obtain ⟨z2,_,a0,a1,a2,a3⟩:=T2.out))
 go_wp2_with fail
 refine (HR _).mono ?_
 rintro e w3 ⟨rfl,hb⟩
 have T3:Hid (ShB w w3 _ _ _ _):=T2.out.step hb
 clear hb a0 a1 a2 a3
 obtain ⟨z3,_,b0,b1,b2,b3⟩:=T3.out
 go_wp2_with fail
 refine (HZ _ (HT.out.below T3.out.bel HT.out.pos)).mono ?_
 rintro e w3 ⟨rfl,rfl⟩
 go_wp2_with fail
 refine (HM _).mono ?_
 rintro e w4 ⟨rfl,hb⟩
 have T4:Hid (ShB w w4 _ _ _ _):=T3.out.step hb
 clear hb b0 b1 b2 b3
 obtain ⟨z4,_,c0,c1,c2,c3⟩:=T4.out
 go_wp2
 go_region_held3 (fun w'=>w'.cell? ⟨w.heap.size,0,none⟩=some (vU 2147483648)/\w'.cell? ⟨w.heap.size,1,none⟩=some (vU 2139095040)/\w'.cell? ⟨w.heap.size,2,none⟩=some (vI 23)/\w'.cell? ⟨w.heap.size,3,none⟩=some (vI (-149))) (simp [*,go_sem])
  (first
   | (go_at_call 259;refine (HY _).mono ?_;rintro x5 w5 ⟨rfl,hb⟩;have T5:Hid (ShB w w5 _ _ _ _):=T4.out.drew.step hb;clear hb;obtain ⟨z5,_,d0,d1,d2,d3⟩:=T5.out))
 all_goals
  go_wp2
  go_ret2
  exact ⟨rfl,T5.out.bel⟩
theorem vQ {m:Nat}{p:Int}(hm:m<18446744073709551616) (m0:((m:Int) == 0)=false) (hp0:-9223372036854775808<=p) (hp:¬ 127<p) {z:Nat}(hu:min (24 - (ln m:Int)) (p+149)=0) (hz:cE (m:Int)=(z:Int)) (q:0<=z) (q2:¬ 104<p) {X:Nat}(hX:m=X) (hx:X<=16777216) {k:Nat}(hk:p=(-149)+(k:Int)) (hk2:k<=255) (w:World) (hT:Tab w):Cb 223 #[.agg #[vU 2147483648,vU 2139095040,vI 23,vI (-149)],vU (m:Int),vI p] w (.tuple #[vU ((k * 8388608+X:Nat):Int),.nilIface]):=by
 have HM:=fun W=>gN W
 have HR:=fun W=>jU (aH hm) (bF m hm) hp0 (by omega:p<=5000) W
 have HZ:=fun W (g:Tab W)=>bI (m:Int) (aH hm) W g
 have HT:Hid (Tab w):=hT
 rw [hz] at HZ
 rw [hu] at HR
 have i1:IntKind.i64.wrap 127=127:=by decide
 clear hT
 have u0:-9223372036854775807<=0:=by have:=(aE m 64).2 hm;omega
 have u1:0<=24:=by omega
 have v0:-100000<=p:=by have:=(aE m 64).2 hm;omega
 have v1:p<=100000:=by have:=(aE m 64).2 hm;omega
 have HY:=fun W=>yZ hk hk2 hx W
 subst hX
 have s0:IntKind.u64.wrap (m:Int)=(m:Int):=by rw [IntKind.wrap_u64];omega
 have i0:IntKind.i64.wrap 0=0:=by decide
 have e2:IntKind.i64.wrap p=p:=IntWalk.i64_in _ ⟨by omega,by omega⟩
 generalize k * 8388608+m=R at *
 clear hu hz hm hk
 go_enter Tryz.func223,Tryz.ntmps223
 go_wp2
 go_region_held3 (fun w'=>w'.cell? ⟨w.heap.size,0,none⟩=some (vU 2147483648)/\w'.cell? ⟨w.heap.size,1,none⟩=some (vU 2139095040)/\w'.cell? ⟨w.heap.size,2,none⟩=some (vI 23)/\w'.cell? ⟨w.heap.size,3,none⟩=some (vI (-149))) (simp [*,go_sem])
  (first
   | (go_at_call 256;refine (HM _).mono ?_;rintro x1 w2 ⟨rfl,hb⟩;have T2:Hid (ShB w w2 _ _ _ _):=(ShB.start w (vU 2147483648) (vU 2139095040) (vI 23) (vI (-149)) 78).drew.step hb;clear hb;obtain ⟨z2,_,a0,a1,a2,a3⟩:=T2.out))
 go_wp2_with fail
 refine (HR _).mono ?_
 rintro e w3 ⟨rfl,hb⟩
 have T3:Hid (ShB w w3 _ _ _ _):=T2.out.step hb
 clear hb a0 a1 a2 a3
 obtain ⟨z3,_,b0,b1,b2,b3⟩:=T3.out
 go_wp2_with fail
 refine (HZ _ (HT.out.below T3.out.bel HT.out.pos)).mono ?_
 rintro e w3 ⟨rfl,rfl⟩
 go_wp2_with fail
 refine (HM _).mono ?_
 rintro e w4 ⟨rfl,hb⟩
 have T4:Hid (ShB w w4 _ _ _ _):=T3.out.step hb
 clear hb b0 b1 b2 b3
 obtain ⟨z4,_,c0,c1,c2,c3⟩:=T4.out
 go_wp2
 go_region_held3 (fun w'=>w'.cell? ⟨w.heap.size,0,none⟩=some (vU 2147483648)/\w'.cell? ⟨w.heap.size,1,none⟩=some (vU 2139095040)/\w'.cell? ⟨w.heap.size,2,none⟩=some (vI 23)/\w'.cell? ⟨w.heap.size,3,none⟩=some (vI (-149))) (simp [*,go_sem])
  (first
   | (go_at_call 259;refine (HY _).mono ?_;rintro x5 w5 ⟨rfl,hb⟩;have T5:Hid (ShB w w5 _ _ _ _):=T4.out.drew.step hb;clear hb;obtain ⟨z5,_,d0,d1,d2,d3⟩:=T5.out))
 all_goals
  go_wp2
  go_ret2
  exact ⟨rfl,T5.out.bel⟩
theorem vT {m:Nat}{p:Int}(m0:((m:Int) == 0)=false) (h:1023<p) (w:World):Cb 223 #[.agg #[vU 9223372036854775808,vU 9218868437227405312,vI 52,vI (-1074)],vU (m:Int),vI p] w (.tuple #[vU 0,.iface 63 (vI 4)]):=by
 have HM:=fun W=>gO W
 have i1:IntKind.i64.wrap 1023=1023:=by decide
 go_enter Tryz.func223,Tryz.ntmps223
 go_wp2
 go_region_held3 (fun w'=>w'.cell? ⟨w.heap.size,0,none⟩=some (vU 9223372036854775808)/\w'.cell? ⟨w.heap.size,1,none⟩=some (vU 9218868437227405312)/\w'.cell? ⟨w.heap.size,2,none⟩=some (vI 52)/\w'.cell? ⟨w.heap.size,3,none⟩=some (vI (-1074))) (simp [*,go_sem])
  (first
   | (go_at_call 256;refine (HM _).mono ?_;rintro x1 w2 ⟨rfl,hb⟩;have T2:Hid (ShB w w2 _ _ _ _):=(ShB.start w (vU 9223372036854775808) (vU 9218868437227405312) (vI 52) (vI (-1074)) 78).drew.step hb;clear hb;obtain ⟨z2,_,a0,a1,a2,a3⟩:=T2.out))
 go_wp2
 go_ret2
 exact ⟨rfl,T2.out.bel⟩
theorem xX {m:Nat}{p:Int}(hm:m<18446744073709551616) (m0:((m:Int) == 0)=false) (hp0:-9223372036854775808<=p) (hp:¬ 1023<p) {u:Int}{z:Nat}(hu:min (53 - (ln m:Int)) (p+1074)=u) (hz:cE (m:Int)=(z:Int)) (q:(z:Int) < -u) (w:World) (hT:Tab w):Cb 223 #[.agg #[vU 9223372036854775808,vU 9218868437227405312,vI 52,vI (-1074)],vU (m:Int),vI p] w (.tuple #[vU 0,.iface 63 (vI 4)]):=by
 have HM:=fun W=>gO W
 have HR:=fun W=>jV (aH hm) (bF m hm) hp0 (by omega:p<=5000) W
 have HZ:=fun W (g:Tab W)=>bI (m:Int) (aH hm) W g
 have HT:Hid (Tab w):=hT
 rw [hz] at HZ
 rw [hu] at HR
 have i1:IntKind.i64.wrap 1023=1023:=by decide
 clear hT
 have u0:-9223372036854775807<=u:=by have:=(aE m 64).2 hm;omega
 have u1:u<=53:=by omega
 clear hu hz hm
 go_enter Tryz.func223,Tryz.ntmps223
 go_wp2
 go_region_held3 (fun w'=>w'.cell? ⟨w.heap.size,0,none⟩=some (vU 9223372036854775808)/\w'.cell? ⟨w.heap.size,1,none⟩=some (vU 9218868437227405312)/\w'.cell? ⟨w.heap.size,2,none⟩=some (vI 52)/\w'.cell? ⟨w.heap.size,3,none⟩=some (vI (-1074))) (simp [*,go_sem])
  (first
   | (go_at_call 256;refine (HM _).mono ?_;rintro x1 w2 ⟨rfl,hb⟩;have T2:Hid (ShB w w2 _ _ _ _):=(ShB.start w (vU 9223372036854775808) (vU 9218868437227405312) (vI 52) (vI (-1074)) 78).drew.step hb;clear hb;obtain ⟨z2,_,a0,a1,a2,a3⟩:=T2.out))
 go_wp2_with fail
 refine (HR _).mono ?_
 rintro e w3 ⟨rfl,hb⟩
 have T3:Hid (ShB w w3 _ _ _ _):=T2.out.step hb
 clear hb a0 a1 a2 a3
 obtain ⟨z3,_,b0,b1,b2,b3⟩:=T3.out
 go_wp2_with fail
 refine (HZ _ (HT.out.below T3.out.bel HT.out.pos)).mono ?_
 rintro e w3 ⟨rfl,rfl⟩
 go_wp2
 go_ret2
 exact ⟨rfl,T3.out.bel⟩
theorem xZ {m:Nat}{p:Int}(hm:m<18446744073709551616) (m0:((m:Int) == 0)=false) (hp0:-9223372036854775808<=p) (hp:¬ 1023<p) {u:Int}{z:Nat}(hu:min (53 - (ln m:Int)) (p+1074)=u) (hz:cE (m:Int)=(z:Int)) (q:¬ (z:Int) < -u) (q2:971<p - u) (w:World) (hT:Tab w):Cb 223 #[.agg #[vU 9223372036854775808,vU 9218868437227405312,vI 52,vI (-1074)],vU (m:Int),vI p] w (.tuple #[vU 0,.iface 63 (vI 4)]):=by
 have HM:=fun W=>gO W
 have HR:=fun W=>jV (aH hm) (bF m hm) hp0 (by omega:p<=5000) W
 have HZ:=fun W (g:Tab W)=>bI (m:Int) (aH hm) W g
 have HT:Hid (Tab w):=hT
 rw [hz] at HZ
 rw [hu] at HR
 have i1:IntKind.i64.wrap 1023=1023:=by decide
 clear hT
 have u0:-9223372036854775807<=u:=by have:=(aE m 64).2 hm;omega
 have u1:u<=53:=by omega
 have v0:-100000<=p - u:=by have:=(aE m 64).2 hm;omega
 have v1:p - u<=100000:=by have:=(aE m 64).2 hm;omega
 clear hu hz hm
 go_enter Tryz.func223,Tryz.ntmps223
 go_wp2
 go_region_held3 (fun w'=>w'.cell? ⟨w.heap.size,0,none⟩=some (vU 9223372036854775808)/\w'.cell? ⟨w.heap.size,1,none⟩=some (vU 9218868437227405312)/\w'.cell? ⟨w.heap.size,2,none⟩=some (vI 52)/\w'.cell? ⟨w.heap.size,3,none⟩=some (vI (-1074))) (simp [*,go_sem])
  (first
   | (go_at_call 256;refine (HM _).mono ?_;rintro x1 w2 ⟨rfl,hb⟩;have T2:Hid (ShB w w2 _ _ _ _):=(ShB.start w (vU 9223372036854775808) (vU 9218868437227405312) (vI 52) (vI (-1074)) 78).drew.step hb;clear hb;obtain ⟨z2,_,a0,a1,a2,a3⟩:=T2.out))
 go_wp2_with fail
 refine (HR _).mono ?_
 rintro e w3 ⟨rfl,hb⟩
 have T3:Hid (ShB w w3 _ _ _ _):=T2.out.step hb
 clear hb a0 a1 a2 a3
 obtain ⟨z3,_,b0,b1,b2,b3⟩:=T3.out
 go_wp2_with fail
 refine (HZ _ (HT.out.below T3.out.bel HT.out.pos)).mono ?_
 rintro e w3 ⟨rfl,rfl⟩
 go_wp2_with fail
 refine (HM _).mono ?_
 rintro e w4 ⟨rfl,hb⟩
 have T4:Hid (ShB w w4 _ _ _ _):=T3.out.step hb
 clear hb b0 b1 b2 b3
 obtain ⟨z4,_,c0,c1,c2,c3⟩:=T4.out
 go_wp2
 go_ret2
 exact ⟨rfl,T4.out.bel⟩
theorem aAP {m:Nat}{p:Int}(hm:m<18446744073709551616) (m0:((m:Int) == 0)=false) (hp0:-9223372036854775808<=p) (hp:¬ 1023<p) {u:Int}{z:Nat}(hu:min (53 - (ln m:Int)) (p+1074)=u) (hz:cE (m:Int)=(z:Int)) (q:¬ (z:Int) < -u) (q2:¬ 971<p - u) (g:0<u) {X:Nat}(hX:(m:Int) * 2 ^ u.toNat=(X:Int)) (hx:X<=9007199254740992) {k:Nat}(hk:p - u=(-1074)+(k:Int)) (hk2:k<=2047) (w:World) (hT:Tab w):Cb 223 #[.agg #[vU 9223372036854775808,vU 9218868437227405312,vI 52,vI (-1074)],vU (m:Int),vI p] w (.tuple #[vU ((k * 4503599627370496+X:Nat):Int),.nilIface]):=by
 have HM:=fun W=>gO W
 have HR:=fun W=>jV (aH hm) (bF m hm) hp0 (by omega:p<=5000) W
 have HZ:=fun W (g:Tab W)=>bI (m:Int) (aH hm) W g
 have HT:Hid (Tab w):=hT
 rw [hz] at HZ
 rw [hu] at HR
 have i1:IntKind.i64.wrap 1023=1023:=by decide
 clear hT
 have u0:-9223372036854775807<=u:=by have:=(aE m 64).2 hm;omega
 have u1:u<=53:=by omega
 have v0:-100000<=p - u:=by have:=(aE m 64).2 hm;omega
 have v1:p - u<=100000:=by have:=(aE m 64).2 hm;omega
 have HY:=fun W=>zA hk hk2 hx W
 have g1:¬ u<0:=by omega
 have g2:0<=u:=by omega
 have g3:-u<0:=by omega
 have e1:IntKind.i64.wrap (-u) = -u:=IntWalk.i64_in _ ⟨by omega,by omega⟩
 have s1:IntKind.u64.wrap ((m:Int) * 2 ^ u.toNat)=(X:Int):=by rw [hX,IntKind.wrap_u64];omega
 have x1:(if u<0 then 0 else u)=u:=if_neg g1
 have x2:(if -u<0 then 0 else -u)=0:=if_pos g3
 have e2:IntKind.i64.wrap (p - u)=p - u:=IntWalk.i64_in _ ⟨by omega,by omega⟩
 clear hX
 generalize k * 4503599627370496+X=R at *
 clear hu hz hm hk
 go_enter Tryz.func223,Tryz.ntmps223
 go_wp2
 go_region_held3 (fun w'=>w'.cell? ⟨w.heap.size,0,none⟩=some (vU 9223372036854775808)/\w'.cell? ⟨w.heap.size,1,none⟩=some (vU 9218868437227405312)/\w'.cell? ⟨w.heap.size,2,none⟩=some (vI 52)/\w'.cell? ⟨w.heap.size,3,none⟩=some (vI (-1074))) (simp [*,go_sem])
  (first
   | (go_at_call 256;refine (HM _).mono ?_;rintro x1 w2 ⟨rfl,hb⟩;have T2:Hid (ShB w w2 _ _ _ _):=(ShB.start w (vU 9223372036854775808) (vU 9218868437227405312) (vI 52) (vI (-1074)) 78).drew.step hb;clear hb;obtain ⟨z2,_,a0,a1,a2,a3⟩:=T2.out))
 go_wp2_with fail
 refine (HR _).mono ?_
 rintro e w3 ⟨rfl,hb⟩
 have T3:Hid (ShB w w3 _ _ _ _):=T2.out.step hb
 clear hb a0 a1 a2 a3
 obtain ⟨z3,_,b0,b1,b2,b3⟩:=T3.out
 go_wp2_with fail
 refine (HZ _ (HT.out.below T3.out.bel HT.out.pos)).mono ?_
 rintro e w3 ⟨rfl,rfl⟩
 go_wp2_with fail
 refine (HM _).mono ?_
 rintro e w4 ⟨rfl,hb⟩
 have T4:Hid (ShB w w4 _ _ _ _):=T3.out.step hb
 clear hb b0 b1 b2 b3
 obtain ⟨z4,_,c0,c1,c2,c3⟩:=T4.out
 go_wp2
 go_region_held3 (fun w'=>w'.cell? ⟨w.heap.size,0,none⟩=some (vU 9223372036854775808)/\w'.cell? ⟨w.heap.size,1,none⟩=some (vU 9218868437227405312)/\w'.cell? ⟨w.heap.size,2,none⟩=some (vI 52)/\w'.cell? ⟨w.heap.size,3,none⟩=some (vI (-1074))) (simp [*,go_sem])
  (first
   | (go_at_call 259;refine (HY _).mono ?_;rintro x5 w5 ⟨rfl,hb⟩;have T5:Hid (ShB w w5 _ _ _ _):=T4.out.drew.step hb;clear hb;obtain ⟨z5,_,d0,d1,d2,d3⟩:=T5.out))
 all_goals
  go_wp2
  go_ret2
  exact ⟨rfl,T5.out.bel⟩
theorem vP {m:Nat}{p:Int}(hm:m<18446744073709551616) (m0:((m:Int) == 0)=false) (hp0:-9223372036854775808<=p) (hp:¬ 1023<p) {v:Int}{z:Nat}(hu:min (53 - (ln m:Int)) (p+1074)=(-v)) (hz:cE (m:Int)=(z:Int)) (q:¬ (z:Int)<v) (q2:¬ 971<p+v) (g:0<v) (z1:z<64) {X:Nat}(hX:(m:Int) / 2 ^ v.toNat=(X:Int)) (hx:X<=9007199254740992) {k:Nat}(hk:p+v=(-1074)+(k:Int)) (hk2:k<=2047) (w:World) (hT:Tab w):Cb 223 #[.agg #[vU 9223372036854775808,vU 9218868437227405312,vI 52,vI (-1074)],vU (m:Int),vI p] w (.tuple #[vU ((k * 4503599627370496+X:Nat):Int),.nilIface]):=by
 have HM:=fun W=>gO W
 have HR:=fun W=>jV (aH hm) (bF m hm) hp0 (by omega:p<=5000) W
 have HZ:=fun W (g:Tab W)=>bI (m:Int) (aH hm) W g
 have HT:Hid (Tab w):=hT
 rw [hz] at HZ
 rw [hu] at HR
 have i1:IntKind.i64.wrap 1023=1023:=by decide
 clear hT
 have u0:-9223372036854775807<=(-v):=by have:=(aE m 64).2 hm;omega
 have u1:(-v)<=53:=by omega
 have v0:-100000<=p+v:=by have:=(aE m 64).2 hm;omega
 have v1:p+v<=100000:=by have:=(aE m 64).2 hm;omega
 have HY:=fun W=>zA hk hk2 hx W
 have g1:¬ v<0:=by omega
 have g2:0<=v:=by omega
 have g3:-v<0:=by omega
 have e1:IntKind.i64.wrap v=v:=IntWalk.i64_in _ ⟨by omega,by omega⟩
 have s0:IntKind.u64.wrap (m:Int)=(m:Int):=by rw [IntKind.wrap_u64];omega
 have s1:(m:Int) / 2 ^ min v.toNat 64=(X:Int):=by rw [Nat.min_eq_left (by omega),hX]
 have x1:(if -v<0 then 0 else -v)=0:=if_pos g3
 have x2:(if v<0 then 0 else v)=v:=if_neg g1
 have e2:IntKind.i64.wrap (p+v)=p+v:=IntWalk.i64_in _ ⟨by omega,by omega⟩
 clear hX z1
 generalize k * 4503599627370496+X=R at *
 clear hu hz hm hk
 go_enter Tryz.func223,Tryz.ntmps223
 go_wp2
 go_region_held3 (fun w'=>w'.cell? ⟨w.heap.size,0,none⟩=some (vU 9223372036854775808)/\w'.cell? ⟨w.heap.size,1,none⟩=some (vU 9218868437227405312)/\w'.cell? ⟨w.heap.size,2,none⟩=some (vI 52)/\w'.cell? ⟨w.heap.size,3,none⟩=some (vI (-1074))) (simp [*,go_sem])
  (first
   | (go_at_call 256;refine (HM _).mono ?_;rintro x1 w2 ⟨rfl,hb⟩;have T2:Hid (ShB w w2 _ _ _ _):=(ShB.start w (vU 9223372036854775808) (vU 9218868437227405312) (vI 52) (vI (-1074)) 78).drew.step hb;clear hb;obtain ⟨z2,_,a0,a1,a2,a3⟩:=T2.out))
 go_wp2_with fail
 refine (HR _).mono ?_
 rintro e w3 ⟨rfl,hb⟩
 have T3:Hid (ShB w w3 _ _ _ _):=T2.out.step hb
 clear hb a0 a1 a2 a3
 obtain ⟨z3,_,b0,b1,b2,b3⟩:=T3.out
 go_wp2_with fail
 refine (HZ _ (HT.out.below T3.out.bel HT.out.pos)).mono ?_
 rintro e w3 ⟨rfl,rfl⟩
 go_wp2_with fail
 refine (HM _).mono ?_
 rintro e w4 ⟨rfl,hb⟩
 have T4:Hid (ShB w w4 _ _ _ _):=T3.out.step hb
 clear hb b0 b1 b2 b3
 obtain ⟨z4,_,c0,c1,c2,c3⟩:=T4.out
 go_wp2
 go_region_held3 (fun w'=>w'.cell? ⟨w.heap.size,0,none⟩=some (vU 9223372036854775808)/\w'.cell? ⟨w.heap.size,1,none⟩=some (vU 9218868437227405312)/\w'.cell? ⟨w.heap.size,2,none⟩=some (vI 52)/\w'.cell? ⟨w.heap.size,3,none⟩=some (vI (-1074))) (simp [*,go_sem])
  (first
   | (go_at_call 259;refine (HY _).mono ?_;rintro x5 w5 ⟨rfl,hb⟩;have T5:Hid (ShB w w5 _ _ _ _):=T4.out.drew.step hb;clear hb;obtain ⟨z5,_,d0,d1,d2,d3⟩:=T5.out))
 all_goals
  go_wp2
  go_ret2
  exact ⟨rfl,T5.out.bel⟩
theorem vR {m:Nat}{p:Int}(hm:m<18446744073709551616) (m0:((m:Int) == 0)=false) (hp0:-9223372036854775808<=p) (hp:¬ 1023<p) {z:Nat}(hu:min (53 - (ln m:Int)) (p+1074)=0) (hz:cE (m:Int)=(z:Int)) (q:0<=z) (q2:¬ 971<p) {X:Nat}(hX:m=X) (hx:X<=9007199254740992) {k:Nat}(hk:p=(-1074)+(k:Int)) (hk2:k<=2047) (w:World) (hT:Tab w):Cb 223 #[.agg #[vU 9223372036854775808,vU 9218868437227405312,vI 52,vI (-1074)],vU (m:Int),vI p] w (.tuple #[vU ((k * 4503599627370496+X:Nat):Int),.nilIface]):=by
 have HM:=fun W=>gO W
 have HR:=fun W=>jV (aH hm) (bF m hm) hp0 (by omega:p<=5000) W
 have HZ:=fun W (g:Tab W)=>bI (m:Int) (aH hm) W g
 have HT:Hid (Tab w):=hT
 rw [hz] at HZ
 rw [hu] at HR
 have i1:IntKind.i64.wrap 1023=1023:=by decide
 clear hT
 have u0:-9223372036854775807<=0:=by have:=(aE m 64).2 hm;omega
 have u1:0<=53:=by omega
 have v0:-100000<=p:=by have:=(aE m 64).2 hm;omega
 have v1:p<=100000:=by have:=(aE m 64).2 hm;omega
 have HY:=fun W=>zA hk hk2 hx W
 subst hX
 have s0:IntKind.u64.wrap (m:Int)=(m:Int):=by rw [IntKind.wrap_u64];omega
 have i0:IntKind.i64.wrap 0=0:=by decide
 have e2:IntKind.i64.wrap p=p:=IntWalk.i64_in _ ⟨by omega,by omega⟩
 generalize k * 4503599627370496+m=R at *
 clear hu hz hm hk
 go_enter Tryz.func223,Tryz.ntmps223
 go_wp2
 go_region_held3 (fun w'=>w'.cell? ⟨w.heap.size,0,none⟩=some (vU 9223372036854775808)/\w'.cell? ⟨w.heap.size,1,none⟩=some (vU 9218868437227405312)/\w'.cell? ⟨w.heap.size,2,none⟩=some (vI 52)/\w'.cell? ⟨w.heap.size,3,none⟩=some (vI (-1074))) (simp [*,go_sem])
  (first
   | (go_at_call 256;refine (HM _).mono ?_;rintro x1 w2 ⟨rfl,hb⟩;have T2:Hid (ShB w w2 _ _ _ _):=(ShB.start w (vU 9223372036854775808) (vU 9218868437227405312) (vI 52) (vI (-1074)) 78).drew.step hb;clear hb;obtain ⟨z2,_,a0,a1,a2,a3⟩:=T2.out))
 go_wp2_with fail
 refine (HR _).mono ?_
 rintro e w3 ⟨rfl,hb⟩
 have T3:Hid (ShB w w3 _ _ _ _):=T2.out.step hb
 clear hb a0 a1 a2 a3
 obtain ⟨z3,_,b0,b1,b2,b3⟩:=T3.out
 go_wp2_with fail
 refine (HZ _ (HT.out.below T3.out.bel HT.out.pos)).mono ?_
 rintro e w3 ⟨rfl,rfl⟩
 go_wp2_with fail
 refine (HM _).mono ?_
 rintro e w4 ⟨rfl,hb⟩
 have T4:Hid (ShB w w4 _ _ _ _):=T3.out.step hb
 clear hb b0 b1 b2 b3
 obtain ⟨z4,_,c0,c1,c2,c3⟩:=T4.out
 go_wp2
 go_region_held3 (fun w'=>w'.cell? ⟨w.heap.size,0,none⟩=some (vU 9223372036854775808)/\w'.cell? ⟨w.heap.size,1,none⟩=some (vU 9218868437227405312)/\w'.cell? ⟨w.heap.size,2,none⟩=some (vI 52)/\w'.cell? ⟨w.heap.size,3,none⟩=some (vI (-1074))) (simp [*,go_sem])
  (first
   | (go_at_call 259;refine (HY _).mono ?_;rintro x5 w5 ⟨rfl,hb⟩;have T5:Hid (ShB w w5 _ _ _ _):=T4.out.drew.step hb;clear hb;obtain ⟨z5,_,d0,d1,d2,d3⟩:=T5.out))
 all_goals
  go_wp2
  go_ret2
  exact ⟨rfl,T5.out.bel⟩
def exV:Option Nat -> Value
 | none=>.tuple #[vU 0,.iface 63 (vI 4)]
 | some b=>.tuple #[vU (b:Int),.nilIface]
theorem qE {m:Nat}{p:Int}(hm:m<18446744073709551616) (m0:m ≠ 0) (hp0:-9223372036854775808<=p) (w:World) (hT:Tab w):Cb 223 #[.agg #[vU 2147483648,vU 2139095040,vI 23,vI (-149)],vU (m:Int),vI p] w (exV (pk 23 255 (-149) m p)):=by
 have n0:((m:Int) == 0)=false:=by simp;omega
 by_cases hp:127<p
 . rw [oE (f:=23) (t:=255) (L:=(-149)) (by decide) m0 (by omega)]
   exact vS n0 hp w
 . obtain ⟨j,hj,z1⟩:=gI m0 hm
   obtain ⟨z,hz⟩:∃ z,z=Lib.ctz 64 m:=⟨_,rfl⟩
   rw [<- hz] at hj z1
   have hz':cE (m:Int)=(z:Int):=by unfold cE;rw [Int.toNat_natCast,hz]
   obtain ⟨u,hu⟩:∃ u,u=rm 23 (-149) m p:=⟨_,rfl⟩
   have hu':min (24 - (ln m:Int)) (p+149)=u:=by rw [hu];unfold rm;omega
   by_cases q:(z:Int) < -u
   . rw [aEU (f:=23) (t:=255) (L:=(-149)) hj (by rw [<- hu];exact q)]
     exact xW hm n0 hp0 hp hu' hz' q w hT
   . have hq:¬ (z:Int) < -(rm 23 (-149) m p):=by rw [<- hu];exact q
     obtain ⟨g,_,_⟩:=aCz (f:=23) (L:=(-149)) hj hq
     rw [zU (f:=23) (t:=255) (L:=(-149)) (by decide) hj hq,<- hu]
     rw [<- hu] at g
     obtain ⟨g1,g2,_⟩:=g
     by_cases q2:104<p - u
     . rw [if_pos (by omega)]
       exact xY hm n0 hp0 hp hu' hz' q q2 w hT
     . rw [if_neg (by omega)]
       obtain ⟨k,hk⟩:∃ k:Nat,p - u=(-149)+(k:Int):=⟨(p - u+149).toNat,by omega⟩
       have hk2:k<=255:=by omega
       have el:ly 23 (-149) (pl m u) (p - u)=k * 8388608+pl m u:=by
        unfold ly
        rw [show (p - u - (-149)).toNat=k by omega]
       rw [el]
       have hx:pl m u<=16777216:=by
        have:pl m u<16777216:=g1
        omega
       clear g1 g2 el hu hq
       rcases Int.lt_trichotomy u 0 with c | c | c
       . obtain ⟨v,rfl⟩:∃ v,u = -v:=⟨-u,by omega⟩
         have e:pl m (-v)=m / 2 ^ v.toNat:=by
          unfold pl
          rw [show (-v).toNat=0 by omega,show (- -v).toNat=v.toNat by omega,Nat.pow_zero,Nat.mul_one]
         exact vO hm n0 hp0 hp hu' hz' (by omega) (by omega) (by omega) z1 (X:=pl m (-v)) (by rw [e];simp) hx (by omega) hk2 w hT
       . subst c
         have e:m=pl m 0:=by
          unfold pl
          simp
         exact vQ hm n0 hp0 hp hu' hz' (by omega) (by omega) e hx (by omega) hk2 w hT
       . have e:pl m u=m * 2 ^ u.toNat:=by
          unfold pl
          rw [show (-u).toNat=0 by omega,Nat.pow_zero,Nat.div_one]
         exact aAO hm n0 hp0 hp hu' hz' q q2 c (X:=pl m u) (by rw [e];simp) hx hk hk2 w hT
theorem qF {m:Nat}{p:Int}(hm:m<18446744073709551616) (m0:m ≠ 0) (hp0:-9223372036854775808<=p) (w:World) (hT:Tab w):Cb 223 #[.agg #[vU 9223372036854775808,vU 9218868437227405312,vI 52,vI (-1074)],vU (m:Int),vI p] w (exV (pk 52 2047 (-1074) m p)):=by
 have n0:((m:Int) == 0)=false:=by simp;omega
 by_cases hp:1023<p
 . rw [oE (f:=52) (t:=2047) (L:=(-1074)) (by decide) m0 (by omega)]
   exact vT n0 hp w
 . obtain ⟨j,hj,z1⟩:=gI m0 hm
   obtain ⟨z,hz⟩:∃ z,z=Lib.ctz 64 m:=⟨_,rfl⟩
   rw [<- hz] at hj z1
   have hz':cE (m:Int)=(z:Int):=by unfold cE;rw [Int.toNat_natCast,hz]
   obtain ⟨u,hu⟩:∃ u,u=rm 52 (-1074) m p:=⟨_,rfl⟩
   have hu':min (53 - (ln m:Int)) (p+1074)=u:=by rw [hu];unfold rm;omega
   by_cases q:(z:Int) < -u
   . rw [aEU (f:=52) (t:=2047) (L:=(-1074)) hj (by rw [<- hu];exact q)]
     exact xX hm n0 hp0 hp hu' hz' q w hT
   . have hq:¬ (z:Int) < -(rm 52 (-1074) m p):=by rw [<- hu];exact q
     obtain ⟨g,_,_⟩:=aCz (f:=52) (L:=(-1074)) hj hq
     rw [zU (f:=52) (t:=2047) (L:=(-1074)) (by decide) hj hq,<- hu]
     rw [<- hu] at g
     obtain ⟨g1,g2,_⟩:=g
     by_cases q2:971<p - u
     . rw [if_pos (by omega)]
       exact xZ hm n0 hp0 hp hu' hz' q q2 w hT
     . rw [if_neg (by omega)]
       obtain ⟨k,hk⟩:∃ k:Nat,p - u=(-1074)+(k:Int):=⟨(p - u+1074).toNat,by omega⟩
       have hk2:k<=2047:=by omega
       have el:ly 52 (-1074) (pl m u) (p - u)=k * 4503599627370496+pl m u:=by
        unfold ly
        rw [show (p - u - (-1074)).toNat=k by omega]
       rw [el]
       have hx:pl m u<=9007199254740992:=by
        have:pl m u<9007199254740992:=g1
        omega
       clear g1 g2 el hu hq
       rcases Int.lt_trichotomy u 0 with c | c | c
       . obtain ⟨v,rfl⟩:∃ v,u = -v:=⟨-u,by omega⟩
         have e:pl m (-v)=m / 2 ^ v.toNat:=by
          unfold pl
          rw [show (-v).toNat=0 by omega,show (- -v).toNat=v.toNat by omega,Nat.pow_zero,Nat.mul_one]
         exact vP hm n0 hp0 hp hu' hz' (by omega) (by omega) (by omega) z1 (X:=pl m (-v)) (by rw [e];simp) hx (by omega) hk2 w hT
       . subst c
         have e:m=pl m 0:=by
          unfold pl
          simp
         exact vR hm n0 hp0 hp hu' hz' (by omega) (by omega) e hx (by omega) hk2 w hT
       . have e:pl m u=m * 2 ^ u.toNat:=by
          unfold pl
          rw [show (-u).toNat=0 by omega,Nat.pow_zero,Nat.div_one]
         exact aAP hm n0 hp0 hp hu' hz' q q2 c (X:=pl m u) (by rw [e];simp) hx hk hk2 w hT
theorem aLn {f:Nat}{t L:Int}{M b:Nat}{E:Int}{T:Nat}(ht:t=(T:Int)) (hT:0<T) (h:out f t L M E=some b):b<T * 2 ^ f:=by
 unfold out at h
 have p:=Nat.two_pow_pos f
 split at h
 . cases h
 . rename_i c
   split at h
   . cases h
     have:1 * 2 ^ f<=T * 2 ^ f:=Nat.mul_le_mul_right _ hT
     omega
   . rename_i k
     cases h
     have c1:M<2 ^ (f+1):=by
      have:¬ 2 ^ (f+1)<=M:=fun x=>c (.inl x)
      omega
     rw [Nat.pow_succ] at c1
     have c2:¬ t<=E - L+1:=fun x=>c (.inr (.inr ⟨by omega,x⟩))
     have:((E - L+1).toNat+1) * 2 ^ f<=T * 2 ^ f:=Nat.mul_le_mul_right _ (by omega)
     rw [Nat.succ_mul] at this
     omega
theorem aH7 {f:Nat}{t L:Int}{m b:Nat}{e:Int}{T:Nat}(ht:t=(T:Int)) (hT:0<T) (h:pk f t L m e=some b):b<T * 2 ^ f:=aLn ht hT h
theorem zL (c:Bool) {m:Nat}{p:Int}(hm:m<18446744073709551616) (m0:m ≠ 0) (hp0:-9223372036854775808<=p) (h:pk 23 255 (-149) m p=none) (w:World) (hT:Tab w):Cb 185 #[.agg #[vU 2147483648,vU 2139095040,vI 23,vI (-149)],.agg #[.bool c,vI 2,vU (m:Int),vI p]] w (.tuple #[vU 0,.iface 63 (vI 4)]):=by
 have HX:=fun W (g:Tab W)=>qE hm m0 hp0 W g
 rw [h] at HX
 unfold exV at HX
 have HT:Hid (Tab w):=hT
 clear hT h hm m0 hp0
 have H1:Hid (FlB ((w.alloc (.cells #[vU 2147483648,vU 2139095040,vI 23,vI (-149)] 78)).alloc (.cells #[.bool c,vI 2,vU (m:Int),vI p] 226)) w.heap.size _ _ _ _):=(FlB.new w _ _ _ _ _).al _
 have H2:Hid (FlB ((w.alloc (.cells #[vU 2147483648,vU 2139095040,vI 23,vI (-149)] 78)).alloc (.cells #[.bool c,vI 2,vU (m:Int),vI p] 226)) (w.heap.size+1) _ _ _ _):=FlB.newAt _ _ _ _ _ _ (by simp)
 have B0:Hid (Bl w ((w.alloc (.cells #[vU 2147483648,vU 2139095040,vI 23,vI (-149)] 78)).alloc (.cells #[.bool c,vI 2,vU (m:Int),vI p] 226))):=(bz _ _).alloc (by simp) _
 have l0:w.heap.size<=((w.alloc (.cells #[vU 2147483648,vU 2139095040,vI 23,vI (-149)] 78)).alloc (.cells #[.bool c,vI 2,vU (m:Int),vI p] 226)).heap.size:=by simp;omega
 go_enter Tryz.func185,Tryz.ntmps185
 go_wp2_with fail
 refine (HX _ (HT.out.below B0.out HT.out.pos)).mono ?_
 rintro e w1 ⟨rfl,hb⟩
 have B1:Hid (Bl w w1):=B0.out.trans (hb.mono l0)
 have l1:w.heap.size<=w1.heap.size:=Nat.le_trans l0 hb.size
 have H1n:Hid (FlB w1 _ _ _ _ _):=H1.out.step hb
 have H2n:Hid (FlB w1 _ _ _ _ _):=H2.out.step hb
 clear H1 H2 hb
 have H1:=H1n
 have H2:=H2n
 clear H1n H2n
 go_wp2
 go_ret2
 exact ⟨rfl,B1.out⟩
theorem zO (c:Bool) {m b:Nat}{p:Int}(hm:m<18446744073709551616) (m0:m ≠ 0) (hp0:-9223372036854775808<=p) (h:pk 23 255 (-149) m p=some b) (w:World) (hT:Tab w):Cb 185 #[.agg #[vU 2147483648,vU 2139095040,vI 23,vI (-149)],.agg #[.bool c,vI 2,vU (m:Int),vI p]] w (.tuple #[vU ((sgd 2147483648 c b:Nat):Int),.nilIface]):=by
 have HX:=fun W (g:Tab W)=>qE hm m0 hp0 W g
 rw [h] at HX
 unfold exV at HX
 have hl:=aH7 (T:=255) rfl (by decide) h
 have HS:=fun W=>mX (x:=b) (by omega) c W
 generalize sgd 2147483648 c b=r at *
 have HT:Hid (Tab w):=hT
 clear hT h hl hm m0 hp0
 have H1:Hid (FlB ((w.alloc (.cells #[vU 2147483648,vU 2139095040,vI 23,vI (-149)] 78)).alloc (.cells #[.bool c,vI 2,vU (m:Int),vI p] 226)) w.heap.size _ _ _ _):=(FlB.new w _ _ _ _ _).al _
 have H2:Hid (FlB ((w.alloc (.cells #[vU 2147483648,vU 2139095040,vI 23,vI (-149)] 78)).alloc (.cells #[.bool c,vI 2,vU (m:Int),vI p] 226)) (w.heap.size+1) _ _ _ _):=FlB.newAt _ _ _ _ _ _ (by simp)
 have B0:Hid (Bl w ((w.alloc (.cells #[vU 2147483648,vU 2139095040,vI 23,vI (-149)] 78)).alloc (.cells #[.bool c,vI 2,vU (m:Int),vI p] 226))):=(bz _ _).alloc (by simp) _
 have l0:w.heap.size<=((w.alloc (.cells #[vU 2147483648,vU 2139095040,vI 23,vI (-149)] 78)).alloc (.cells #[.bool c,vI 2,vU (m:Int),vI p] 226)).heap.size:=by simp;omega
 go_enter Tryz.func185,Tryz.ntmps185
 go_wp2_with fail
 refine (HX _ (HT.out.below B0.out HT.out.pos)).mono ?_
 rintro e w1 ⟨rfl,hb⟩
 have B1:Hid (Bl w w1):=B0.out.trans (hb.mono l0)
 have l1:w.heap.size<=w1.heap.size:=Nat.le_trans l0 hb.size
 have H1n:Hid (FlB w1 _ _ _ _ _):=H1.out.step hb
 have H2n:Hid (FlB w1 _ _ _ _ _):=H2.out.step hb
 clear H1 H2 hb
 have H1:=H1n
 have H2:=H2n
 clear H1n H2n
 obtain ⟨m1,a0,a1,a2,a3,_,_,_,_⟩:=H1.out
 obtain ⟨m2,b0,b1,b2,b3,_,_,_,_⟩:=H2.out
 go_wp2_with fail
 refine (HS _).mono ?_
 rintro e w2 ⟨rfl,hb⟩
 have B2:Hid (Bl w w2):=B1.out.trans (hb.mono l1)
 have l2:w.heap.size<=w2.heap.size:=Nat.le_trans l1 hb.size
 have H1n:Hid (FlB w2 _ _ _ _ _):=H1.out.step hb
 have H2n:Hid (FlB w2 _ _ _ _ _):=H2.out.step hb
 clear H1 H2 hb
 have H1:=H1n
 have H2:=H2n
 clear H1n H2n
 go_wp2
 go_ret2
 exact ⟨rfl,B2.out⟩
theorem zN (c:Bool) {m:Nat}{p:Int}(hm:m<18446744073709551616) (m0:m ≠ 0) (hp0:-9223372036854775808<=p) (h:pk 52 2047 (-1074) m p=none) (w:World) (hT:Tab w):Cb 185 #[.agg #[vU 9223372036854775808,vU 9218868437227405312,vI 52,vI (-1074)],.agg #[.bool c,vI 2,vU (m:Int),vI p]] w (.tuple #[vU 0,.iface 63 (vI 4)]):=by
 have HX:=fun W (g:Tab W)=>qF hm m0 hp0 W g
 rw [h] at HX
 unfold exV at HX
 have HT:Hid (Tab w):=hT
 clear hT h hm m0 hp0
 have H1:Hid (FlB ((w.alloc (.cells #[vU 9223372036854775808,vU 9218868437227405312,vI 52,vI (-1074)] 78)).alloc (.cells #[.bool c,vI 2,vU (m:Int),vI p] 226)) w.heap.size _ _ _ _):=(FlB.new w _ _ _ _ _).al _
 have H2:Hid (FlB ((w.alloc (.cells #[vU 9223372036854775808,vU 9218868437227405312,vI 52,vI (-1074)] 78)).alloc (.cells #[.bool c,vI 2,vU (m:Int),vI p] 226)) (w.heap.size+1) _ _ _ _):=FlB.newAt _ _ _ _ _ _ (by simp)
 have B0:Hid (Bl w ((w.alloc (.cells #[vU 9223372036854775808,vU 9218868437227405312,vI 52,vI (-1074)] 78)).alloc (.cells #[.bool c,vI 2,vU (m:Int),vI p] 226))):=(bz _ _).alloc (by simp) _
 have l0:w.heap.size<=((w.alloc (.cells #[vU 9223372036854775808,vU 9218868437227405312,vI 52,vI (-1074)] 78)).alloc (.cells #[.bool c,vI 2,vU (m:Int),vI p] 226)).heap.size:=by simp;omega
 go_enter Tryz.func185,Tryz.ntmps185
 go_wp2_with fail
 refine (HX _ (HT.out.below B0.out HT.out.pos)).mono ?_
 rintro e w1 ⟨rfl,hb⟩
 have B1:Hid (Bl w w1):=B0.out.trans (hb.mono l0)
 have l1:w.heap.size<=w1.heap.size:=Nat.le_trans l0 hb.size
 have H1n:Hid (FlB w1 _ _ _ _ _):=H1.out.step hb
 have H2n:Hid (FlB w1 _ _ _ _ _):=H2.out.step hb
 clear H1 H2 hb
 have H1:=H1n
 have H2:=H2n
 clear H1n H2n
 go_wp2
 go_ret2
 exact ⟨rfl,B1.out⟩
theorem zP (c:Bool) {m b:Nat}{p:Int}(hm:m<18446744073709551616) (m0:m ≠ 0) (hp0:-9223372036854775808<=p) (h:pk 52 2047 (-1074) m p=some b) (w:World) (hT:Tab w):Cb 185 #[.agg #[vU 9223372036854775808,vU 9218868437227405312,vI 52,vI (-1074)],.agg #[.bool c,vI 2,vU (m:Int),vI p]] w (.tuple #[vU ((sgd 9223372036854775808 c b:Nat):Int),.nilIface]):=by
 have HX:=fun W (g:Tab W)=>qF hm m0 hp0 W g
 rw [h] at HX
 unfold exV at HX
 have hl:=aH7 (T:=2047) rfl (by decide) h
 have HS:=fun W=>mY (x:=b) (by omega) c W
 generalize sgd 9223372036854775808 c b=r at *
 have HT:Hid (Tab w):=hT
 clear hT h hl hm m0 hp0
 have H1:Hid (FlB ((w.alloc (.cells #[vU 9223372036854775808,vU 9218868437227405312,vI 52,vI (-1074)] 78)).alloc (.cells #[.bool c,vI 2,vU (m:Int),vI p] 226)) w.heap.size _ _ _ _):=(FlB.new w _ _ _ _ _).al _
 have H2:Hid (FlB ((w.alloc (.cells #[vU 9223372036854775808,vU 9218868437227405312,vI 52,vI (-1074)] 78)).alloc (.cells #[.bool c,vI 2,vU (m:Int),vI p] 226)) (w.heap.size+1) _ _ _ _):=FlB.newAt _ _ _ _ _ _ (by simp)
 have B0:Hid (Bl w ((w.alloc (.cells #[vU 9223372036854775808,vU 9218868437227405312,vI 52,vI (-1074)] 78)).alloc (.cells #[.bool c,vI 2,vU (m:Int),vI p] 226))):=(bz _ _).alloc (by simp) _
 have l0:w.heap.size<=((w.alloc (.cells #[vU 9223372036854775808,vU 9218868437227405312,vI 52,vI (-1074)] 78)).alloc (.cells #[.bool c,vI 2,vU (m:Int),vI p] 226)).heap.size:=by simp;omega
 go_enter Tryz.func185,Tryz.ntmps185
 go_wp2_with fail
 refine (HX _ (HT.out.below B0.out HT.out.pos)).mono ?_
 rintro e w1 ⟨rfl,hb⟩
 have B1:Hid (Bl w w1):=B0.out.trans (hb.mono l0)
 have l1:w.heap.size<=w1.heap.size:=Nat.le_trans l0 hb.size
 have H1n:Hid (FlB w1 _ _ _ _ _):=H1.out.step hb
 have H2n:Hid (FlB w1 _ _ _ _ _):=H2.out.step hb
 clear H1 H2 hb
 have H1:=H1n
 have H2:=H2n
 clear H1n H2n
 obtain ⟨m1,a0,a1,a2,a3,_,_,_,_⟩:=H1.out
 obtain ⟨m2,b0,b1,b2,b3,_,_,_,_⟩:=H2.out
 go_wp2_with fail
 refine (HS _).mono ?_
 rintro e w2 ⟨rfl,hb⟩
 have B2:Hid (Bl w w2):=B1.out.trans (hb.mono l1)
 have l2:w.heap.size<=w2.heap.size:=Nat.le_trans l1 hb.size
 have H1n:Hid (FlB w2 _ _ _ _ _):=H1.out.step hb
 have H2n:Hid (FlB w2 _ _ _ _ _):=H2.out.step hb
 clear H1 H2 hb
 have H1:=H1n
 have H2:=H2n
 clear H1n H2n
 go_wp2
 go_ret2
 exact ⟨rfl,B2.out⟩
theorem zS {c:Bool}{k m p y:Int}{V:Value}(w:World) (hT:Tab w) (HP:∀ W,Tab W -> Cb 185 #[.agg #[vU 2147483648,vU 2139095040,vI 23,vI (-149)],.agg #[.bool c,vI k,vU m,vI p]] W (.tuple #[vU y,V])):Cb 141 #[.agg #[.bool c,vI k,vU m,vI p],vI 32] w (.tuple #[vU y,V]):=by
 have H:=fun W=>cJ W
 have HT:Hid (Tab w):=hT
 clear hT
 go_enter Tryz.func141,Tryz.ntmps141
 go_wp2_with fail
 refine (H _).mono ?_
 rintro e w1 ⟨rfl,hb⟩
 have B1:Hid (Bl w w1):=(bz _ _).trans (hb.mono (by simp))
 have T1:Hid (FlB w1 w.heap.size _ _ _ _):=(FlB.new w (.bool c) (vI k) (vU m) (vI p) 226).step hb
 clear hb
 obtain ⟨l,a0,a1,a2,a3,_,_,_,_⟩:=T1.out
 go_wp2_with fail
 refine (HP _ (HT.out.below (B1.out.alloc (Nat.le_of_lt l) _) HT.out.pos)).mono ?_
 rintro e w2 ⟨rfl,hb⟩
 have B2:Hid (Bl w w2):=(B1.out.alloc (Nat.le_of_lt l) _).trans (hb.mono (by simp;omega))
 clear hb
 go_wp2
 go_ret2
 exact ⟨rfl,B2.out⟩
theorem zT {c:Bool}{k m p y:Int}{V:Value}(w:World) (hT:Tab w) (HP:∀ W,Tab W -> Cb 185 #[.agg #[vU 9223372036854775808,vU 9218868437227405312,vI 52,vI (-1074)],.agg #[.bool c,vI k,vU m,vI p]] W (.tuple #[vU y,V])):Cb 141 #[.agg #[.bool c,vI k,vU m,vI p],vI 64] w (.tuple #[vU y,V]):=by
 have H:=fun W=>cK W
 have HT:Hid (Tab w):=hT
 clear hT
 go_enter Tryz.func141,Tryz.ntmps141
 go_wp2_with fail
 refine (H _).mono ?_
 rintro e w1 ⟨rfl,hb⟩
 have B1:Hid (Bl w w1):=(bz _ _).trans (hb.mono (by simp))
 have T1:Hid (FlB w1 w.heap.size _ _ _ _):=(FlB.new w (.bool c) (vI k) (vU m) (vI p) 226).step hb
 clear hb
 obtain ⟨l,a0,a1,a2,a3,_,_,_,_⟩:=T1.out
 go_wp2_with fail
 refine (HP _ (HT.out.below (B1.out.alloc (Nat.le_of_lt l) _) HT.out.pos)).mono ?_
 rintro e w2 ⟨rfl,hb⟩
 have B2:Hid (Bl w w2):=(B1.out.alloc (Nat.le_of_lt l) _).trans (hb.mono (by simp;omega))
 clear hb
 go_wp2
 go_ret2
 exact ⟨rfl,B2.out⟩
theorem GrB.al {W:World}{K:Nat}{a b c:Value}(h:GrB W K a b c) (o:Obj):GrB (W.alloc o) K a b c:=h.step (bz _ _)
theorem aDY (w:World):Cb 204 #[vI 32] w (.tuple #[.agg #[vI 32,vI 24,vI (-149)],.nilIface]):=by
 have HM:=fun W=>xC W
 have HL:=fun W=>tP W
 have U1:∀ W,Cb 139 #[vU 2139095039,vI 32] W (.tuple #[.agg #[.bool false,vI 2,vU 16777215,vI (104)],.nilIface]):=fun W=>by
  have h:=nI (b:=2139095039) (by decide) W
  rw [show uN 2147483648 2139095040 2139095039=false by decide +kernel,show mg 2147483648 2139095039=2139095039 by decide +kernel,show cl 2139095040 2139095039=2 by decide +kernel,show uM 2139095040 23 2139095039=16777215 by decide +kernel,show uE 2139095040 23 (-149) 2139095039=104 by decide +kernel,show ((2139095039:Nat):Int)=2139095039 from rfl,show ((16777215:Nat):Int)=16777215 from rfl] at h
  exact h
 have U2:∀ W,Cb 139 #[vU 1,vI 32] W (.tuple #[.agg #[.bool false,vI 2,vU 1,vI (-149)],.nilIface]):=fun W=>by
  have h:=nI (b:=1) (by decide) W
  rw [show uN 2147483648 2139095040 1=false by decide +kernel,show mg 2147483648 1=1 by decide +kernel,show cl 2139095040 1=2 by decide +kernel,show uM 2139095040 23 1=1 by decide +kernel,show uE 2139095040 23 (-149) 1 = -149 by decide +kernel,show ((1:Nat):Int)=1 from rfl] at h
  exact h
 have HN:∀ W,Cs 140 #[vU 16777215] W (vI 24):=fun W=>by
  have h:=aO 16777215 ⟨by decide,by decide⟩ W
  rw [show aM 16777215=24 by decide +kernel] at h
  exact h
 go_enter Tryz.func204,Tryz.ntmps204
 go_wp2_with fail
 refine (HM _).mono ?_
 rintro e w1 ⟨rfl,hb⟩
 have T1:Hid (GrB w1 w.heap.size _ _ _):=(GrB.new w (vI 0) (vI 0) (vI 0) 304).step hb
 have B1:Hid (Bl w w1):=(bz _ _).trans (hb.mono (by simp))
 clear hb
 go_wp2_with fail
 refine (HL _).mono ?_
 rintro e w2 ⟨rfl,hb⟩
 have T2:Hid (GrB w2 w.heap.size _ _ _):=T1.out.step hb
 have B2:Hid (Bl w w2):=B1.out.trans (hb.mono B1.out.size)
 clear hb T1 B1
 go_wp2_with fail
 refine (U1 _).mono ?_
 rintro e w3 ⟨rfl,hb⟩
 have T3:Hid (GrB w3 w.heap.size _ _ _):=T2.out.step hb
 have B3:Hid (Bl w w3):=B2.out.trans (hb.mono B2.out.size)
 have s3:w.heap.size<w3.heap.size:=T3.out.lt
 clear hb T2 B2
 go_wp2_with fail
 refine (U2 _).mono ?_
 rintro e w4 ⟨rfl,hb⟩
 have T4:Hid (GrB w4 w.heap.size _ _ _):=(T3.out.al _).step hb
 have X4:Hid (FlB w4 w3.heap.size _ _ _ _):=(FlB.new w3 _ _ _ _ _).step hb
 have B4:Hid (Bl w w4):=(B3.out.alloc B3.out.size _).trans (hb.mono (by have:=B3.out.size;simp;omega))
 clear hb T3 B3
 have T5:Hid (GrB (w4.alloc (.cells #[.bool false,vI 2,vU 1,vI (-149)] 226)) w.heap.size _ _ _):=T4.out.al _
 have X5:Hid (FlB (w4.alloc (.cells #[.bool false,vI 2,vU 1,vI (-149)] 226)) w3.heap.size _ _ _ _):=X4.out.al _
 have Y5:Hid (FlB (w4.alloc (.cells #[.bool false,vI 2,vU 1,vI (-149)] 226)) w4.heap.size _ _ _ _):=FlB.new w4 _ _ _ _ _
 have B5:Hid (Bl w (w4.alloc (.cells #[.bool false,vI 2,vU 1,vI (-149)] 226))):=B4.out.alloc B4.out.size _
 have s5:Hid (w.heap.size<w3.heap.size/\w.heap.size<w4.heap.size):=⟨s3,Nat.lt_of_lt_of_le T4.out.lt (Nat.le_refl _)⟩
 clear T4 X4 B4
 go_upto_region 7 with fail
 generalize w4.alloc (.cells #[.bool false,vI 2,vU 1,vI (-149)] 226)=v at *
 obtain ⟨s6,s7⟩:=s5.out
 have n3:w3.heap.size ≠ w.heap.size:=by omega
 have n4:w4.heap.size ≠ w.heap.size:=by omega
 obtain ⟨_,t0,t1,t2,g0,g1,g2⟩:=T5.out
 obtain ⟨_,_,_,x2,_,_,_,_,_⟩:=X5.out
 obtain ⟨_,_,_,_,y3,_,_,_,_⟩:=Y5.out
 go_region_held3 (fun w'=>w'.cell? ⟨w3.heap.size,2,none⟩=some (vU 16777215)/\w'.cell? ⟨w4.heap.size,3,none⟩=some (vI (-149))/\w'.frozen? ⟨w.heap.size,0,none⟩=false/\w'.frozen? ⟨w.heap.size,1,none⟩=false/\w'.frozen? ⟨w.heap.size,2,none⟩=false) (simp [*,go_sem])
  (first
   | (go_at_call 140;refine (HN _).mono ?_;rintro x1 w2 ⟨rfl,hh⟩;subst hh))
 go_wp2
 exact bodyPost_ret (v:=.tuple #[.agg #[vI 32,vI 24,vI (-149)],.nilIface]) (by simp [results,Tryz.results204,go_sem,World.cell?_setCell_same,World.cell?_setCell_other, *]) rfl ⟨rfl,((B5.out.drew.setCell (Nat.le_refl _) _).setCell (Nat.le_refl _) _).setCell (Nat.le_refl _) _⟩
theorem aDZ (w:World):Cb 204 #[vI 64] w (.tuple #[.agg #[vI 64,vI 53,vI (-1074)],.nilIface]):=by
 have HM:=fun W=>xD W
 have HL:=fun W=>tQ W
 have U1:∀ W,Cb 139 #[vU 9218868437227405311,vI 64] W (.tuple #[.agg #[.bool false,vI 2,vU 9007199254740991,vI (971)],.nilIface]):=fun W=>by
  have h:=nJ (b:=9218868437227405311) (by decide) W
  rw [show uN 9223372036854775808 9218868437227405312 9218868437227405311=false by decide +kernel,show mg 9223372036854775808 9218868437227405311=9218868437227405311 by decide +kernel,show cl 9218868437227405312 9218868437227405311=2 by decide +kernel,show uM 9218868437227405312 52 9218868437227405311=9007199254740991 by decide +kernel,show uE 9218868437227405312 52 (-1074) 9218868437227405311=971 by decide +kernel,show ((9218868437227405311:Nat):Int)=9218868437227405311 from rfl,show ((9007199254740991:Nat):Int)=9007199254740991 from rfl] at h
  exact h
 have U2:∀ W,Cb 139 #[vU 1,vI 64] W (.tuple #[.agg #[.bool false,vI 2,vU 1,vI (-1074)],.nilIface]):=fun W=>by
  have h:=nJ (b:=1) (by decide) W
  rw [show uN 9223372036854775808 9218868437227405312 1=false by decide +kernel,show mg 9223372036854775808 1=1 by decide +kernel,show cl 9218868437227405312 1=2 by decide +kernel,show uM 9218868437227405312 52 1=1 by decide +kernel,show uE 9218868437227405312 52 (-1074) 1 = -1074 by decide +kernel,show ((1:Nat):Int)=1 from rfl] at h
  exact h
 have HN:∀ W,Cs 140 #[vU 9007199254740991] W (vI 53):=fun W=>by
  have h:=aO 9007199254740991 ⟨by decide,by decide⟩ W
  rw [show aM 9007199254740991=53 by decide +kernel] at h
  exact h
 go_enter Tryz.func204,Tryz.ntmps204
 go_wp2_with fail
 refine (HM _).mono ?_
 rintro e w1 ⟨rfl,hb⟩
 have T1:Hid (GrB w1 w.heap.size _ _ _):=(GrB.new w (vI 0) (vI 0) (vI 0) 304).step hb
 have B1:Hid (Bl w w1):=(bz _ _).trans (hb.mono (by simp))
 clear hb
 go_wp2_with fail
 refine (HL _).mono ?_
 rintro e w2 ⟨rfl,hb⟩
 have T2:Hid (GrB w2 w.heap.size _ _ _):=T1.out.step hb
 have B2:Hid (Bl w w2):=B1.out.trans (hb.mono B1.out.size)
 clear hb T1 B1
 go_wp2_with fail
 refine (U1 _).mono ?_
 rintro e w3 ⟨rfl,hb⟩
 have T3:Hid (GrB w3 w.heap.size _ _ _):=T2.out.step hb
 have B3:Hid (Bl w w3):=B2.out.trans (hb.mono B2.out.size)
 have s3:w.heap.size<w3.heap.size:=T3.out.lt
 clear hb T2 B2
 go_wp2_with fail
 refine (U2 _).mono ?_
 rintro e w4 ⟨rfl,hb⟩
 have T4:Hid (GrB w4 w.heap.size _ _ _):=(T3.out.al _).step hb
 have X4:Hid (FlB w4 w3.heap.size _ _ _ _):=(FlB.new w3 _ _ _ _ _).step hb
 have B4:Hid (Bl w w4):=(B3.out.alloc B3.out.size _).trans (hb.mono (by have:=B3.out.size;simp;omega))
 clear hb T3 B3
 have T5:Hid (GrB (w4.alloc (.cells #[.bool false,vI 2,vU 1,vI (-1074)] 226)) w.heap.size _ _ _):=T4.out.al _
 have X5:Hid (FlB (w4.alloc (.cells #[.bool false,vI 2,vU 1,vI (-1074)] 226)) w3.heap.size _ _ _ _):=X4.out.al _
 have Y5:Hid (FlB (w4.alloc (.cells #[.bool false,vI 2,vU 1,vI (-1074)] 226)) w4.heap.size _ _ _ _):=FlB.new w4 _ _ _ _ _
 have B5:Hid (Bl w (w4.alloc (.cells #[.bool false,vI 2,vU 1,vI (-1074)] 226))):=B4.out.alloc B4.out.size _
 have s5:Hid (w.heap.size<w3.heap.size/\w.heap.size<w4.heap.size):=⟨s3,Nat.lt_of_lt_of_le T4.out.lt (Nat.le_refl _)⟩
 clear T4 X4 B4
 go_upto_region 7 with fail
 generalize w4.alloc (.cells #[.bool false,vI 2,vU 1,vI (-1074)] 226)=v at *
 obtain ⟨s6,s7⟩:=s5.out
 have n3:w3.heap.size ≠ w.heap.size:=by omega
 have n4:w4.heap.size ≠ w.heap.size:=by omega
 obtain ⟨_,t0,t1,t2,g0,g1,g2⟩:=T5.out
 obtain ⟨_,_,_,x2,_,_,_,_,_⟩:=X5.out
 obtain ⟨_,_,_,_,y3,_,_,_,_⟩:=Y5.out
 go_region_held3 (fun w'=>w'.cell? ⟨w3.heap.size,2,none⟩=some (vU 9007199254740991)/\w'.cell? ⟨w4.heap.size,3,none⟩=some (vI (-1074))/\w'.frozen? ⟨w.heap.size,0,none⟩=false/\w'.frozen? ⟨w.heap.size,1,none⟩=false/\w'.frozen? ⟨w.heap.size,2,none⟩=false) (simp [*,go_sem])
  (first
   | (go_at_call 140;refine (HN _).mono ?_;rintro x1 w2 ⟨rfl,hh⟩;subst hh))
 go_wp2
 exact bodyPost_ret (v:=.tuple #[.agg #[vI 64,vI 53,vI (-1074)],.nilIface]) (by simp [results,Tryz.results204,go_sem,World.cell?_setCell_same,World.cell?_setCell_other, *]) rfl ⟨rfl,((B5.out.drew.setCell (Nat.le_refl _) _).setCell (Nat.le_refl _) _).setCell (Nat.le_refl _) _⟩
theorem aDf {e:Int}(h0:-1099511627776<=e) (h1:e<=1099511627776) (w:World):Cs 206 #[vI e] w .nilIface:=by
 have p1:¬ e < -1099511627776:=by omega
 have p2:¬ 1099511627776<e:=by omega
 clear h0 h1
 go_enter Tryz.func206,Tryz.ntmps206
 go_wp2
 go_ret
 exact ⟨rfl,rfl⟩
theorem yJ {s:Int}{g n f T:Nat}{L:Int}(h:Fz s g n f T L) (w:World):Cb 204 #[vI s] w (.tuple #[.agg #[vI s,vI ((f:Int)+1),vI L],.nilIface]):=by
 rcases h with ⟨rfl,rfl,rfl,rfl,rfl,rfl⟩ | ⟨rfl,rfl,rfl,rfl,rfl,rfl⟩
 . exact aDY w
 . exact aDZ w
theorem aDK {m:Nat}(more:Bool) (w:World):Cs 248 #[vU (m:Int),vI 0,.bool more] w (vU (m:Int)):=by
 go_enter Tryz.func248,Tryz.ntmps248
 go_wp2
 go_ret
 exact ⟨rfl,rfl⟩
theorem aGo {m D:Nat}(hm:m<18446744073709551616) (hD:64<D) (hD2:D<9223372036854775808) (more:Bool) (w:World):Cs 248 #[vU (m:Int),vI (D:Int),.bool more] w (vU 0):=by
 have p1:((D:Int) == 0)=false:=by simp;omega
 have p2:(64:Int)<(D:Int):=by omega
 have p3:¬ (D:Int)<0:=by omega
 go_enter Tryz.func248,Tryz.ntmps248
 go_wp2
 have e:(m:Int) / 2 ^ min D 64=0:=by
  rw [show min D 64=64 from by omega]
  omega
 rw [e]
 go_ret
 exact ⟨rfl,rfl⟩
theorem aDL {m D:Nat}(hm:m<18446744073709551616) (hD:D<=64) (hD0:D ≠ 0) (more:Bool) (w:World):Cb 248 #[vU (m:Int),vI (D:Int),.bool more] w (vU ((dpK m D more:Nat):Int)):=by
 have p1:((D:Int) == 0)=false:=by simp;omega
 have p2:¬ (64:Int)<(D:Int):=by omega
 have p3:¬ (D:Int)<0:=by omega
 have p4:¬ (D:Int) - 1<0:=by omega
 obtain ⟨Z,hZ⟩:∃ Z,Z=dpK m D more:=⟨_,rfl⟩
 rw [<- hZ]
 have HZ:Hid (Z=dpK m D more):=hZ
 clear hZ
 go_enter Tryz.func248,Tryz.ntmps248
 go_wp2
 go_quiet (fail)
 have hu:dpU m D more=decide (2 ^ (D - 1)<m % 2 ^ D \/ (m % 2 ^ D=2 ^ (D - 1)/\(more=true \/ m / 2 ^ D % 2=1))):=by
  unfold dpU
  simp [hD,hD0]
 have hp:2 ^ (D - 1)<18446744073709551616:=Nat.lt_of_le_of_lt (Nat.pow_le_pow_right (by omega) (show D - 1<=63 by omega)) (by decide)
 have e1:(m:Int) / 2 ^ D=((m / 2 ^ D:Nat):Int):=by push_cast;rfl
 have e2:(2:Int) ^ (D - 1)=((2 ^ (D - 1):Nat):Int):=by push_cast;rfl
 have e3:((m / 2 ^ D:Nat):Int) * 2 ^ D=((m / 2 ^ D * 2 ^ D:Nat):Int):=by push_cast;rfl
 have e4:m / 2 ^ D * 2 ^ D+m % 2 ^ D=m:=by rw [Nat.mul_comm];exact Nat.div_add_mod m (2 ^ D)
 have hk:m / 2 ^ D<9223372036854775808:=by
  rw [Nat.div_lt_iff_lt_mul (Nat.two_pow_pos D),show D=D - 1+1 from by omega,Nat.pow_succ]
  have:=Nat.two_pow_pos (D - 1)
  generalize 2 ^ (D - 1)=z at *
  omega
 have hZ:=HZ.out
 clear HZ
 unfold dpK at hZ
 rw [e1,e2,e3]
 generalize m / 2 ^ D * 2 ^ D=P at *
 have w1:IntKind.u64.wrap (P:Int)=(P:Int):=IntWalk.u64_in _ ⟨by omega,by omega⟩
 have w2:IntKind.u64.wrap ((m:Int) - (P:Int))=((m % 2 ^ D:Nat):Int):=by
  rw [show (m:Int) - (P:Int)=((m % 2 ^ D:Nat):Int) from by omega]
  exact IntWalk.u64_in _ ⟨by omega,by omega⟩
 have w3:IntKind.u64.wrap ((2 ^ (D - 1):Nat):Int)=((2 ^ (D - 1):Nat):Int):=by
  generalize 2 ^ (D - 1)=z at *
  exact IntWalk.u64_in _ ⟨by omega,by omega⟩
 rw [w1,w2,w3]
 clear w1 w2 w3 e1 e2 e3 e4 p1 p2 p3 p4 hD hD0
 generalize m % 2 ^ D=R at *
 generalize m / 2 ^ D=k at *
 generalize 2 ^ (D - 1)=H at *
 generalize dpU m D more=U at *
 subst hu
 have q:k % 2=0 \/ k % 2=1:=by omega
 have fin:Bl w (w.drewN nq):=below_drewN (Below.refl _ _) nq
 cases more
 . simp only [Bool.false_eq_true,false_or,decide_eq_true_eq] at hZ
   go_wp2
   all_goals go_ret
   all_goals simp only [beq_iff_eq,beq_eq_false_iff_ne,ne_eq] at *
   all_goals first
    | (refine ⟨congrArg (fun z:Int=>Ending.returned (vU z)) (show (k:Int)+1=(Z:Int) from ?_),fin⟩;split at hZ <;> omega)
    | (refine ⟨congrArg (fun z:Int=>Ending.returned (vU z)) (show (k:Int)=(Z:Int) from ?_),fin⟩;split at hZ <;> omega)
 . simp only [true_or,and_true,decide_eq_true_eq] at hZ
   go_wp2
   all_goals go_ret
   all_goals first
    | (refine ⟨congrArg (fun z:Int=>Ending.returned (vU z)) (show (k:Int)+1=(Z:Int) from ?_),fin⟩;split at hZ <;> omega)
    | (refine ⟨congrArg (fun z:Int=>Ending.returned (vU z)) (show (k:Int)=(Z:Int) from ?_),fin⟩;split at hZ <;> omega)
theorem jB {m D:Nat}(hm:m<18446744073709551616) (hD:D<9223372036854775808) (more:Bool) (w:World):Cb 248 #[vU (m:Int),vI (D:Int),.bool more] w (vU ((dpK m D more:Nat):Int)):=by
 by_cases h0:D=0
 . subst h0
   have e:dpK m 0 more=m:=by unfold dpK dpU;simp
   rw [e]
   exact (aDK more w).mono fun e w' q=>⟨q.1,by rw [q.2];exact Below.refl _ _⟩
 by_cases h1:D<=64
 . exact aDL hm h1 h0 more w
 . have e:dpK m D more=0:=by
    unfold dpK dpU
    rw [if_neg (by simp [h1]),Nat.add_zero]
    exact Nat.div_eq_of_lt (Nat.lt_of_lt_of_le hm (Nat.le_trans (by decide:18446744073709551616<=2 ^ 64) (Nat.pow_le_pow_right (by omega) (by omega))))
   rw [e]
   exact (aGo hm (by omega) hD more w).mono fun e w' q=>⟨q.1,by rw [q.2];exact Below.refl _ _⟩
def anV (g:Nat) (c:Bool) (p:Nat × Bool):Value:=.tuple #[vU ((sgd g c p.1:Nat):Int),if p.2 then .iface 63 (vI 4) else .nilIface]
theorem rP {s:Int}{g n f T:Nat}{L:Int}(h:Fz s g n f T L) (c:Bool) (w:World):Cb 49 #[.bool c,vI s] w (.tuple #[vU ((sgd g c 0:Nat):Int),.nilIface]):=by
 rcases h with ⟨rfl,rfl,rfl,rfl,rfl,rfl⟩ | ⟨rfl,rfl,rfl,rfl,rfl,rfl⟩
 . exact aF8 c w
 . exact aF9 c w
theorem nT {s:Int}{g n f T:Nat}{L:Int}(h:Fz s g n f T L) (c:Bool) (w:World):Cb 47 #[.bool c,vI s] w (.tuple #[vU ((sgd g c (T * 2 ^ f):Nat):Int),.nilIface]):=by
 rcases h with ⟨rfl,rfl,rfl,rfl,rfl,rfl⟩ | ⟨rfl,rfl,rfl,rfl,rfl,rfl⟩
 . exact aIh c w
 . exact aIi c w
theorem rA {s:Int}{g n f T:Nat}{L:Int}(h:Fz s g n f T L) (c:Bool) {m:Nat}{p:Int}(hm:m<18446744073709551616) (m0:m ≠ 0) (hp0:-9223372036854775808<=p) (w:World) (hT:Tab w):Cb 141 #[.agg #[.bool c,vI 2,vU (m:Int),vI p],vI s] w (match pk f (T:Int) L m p with | some b=>.tuple #[vU ((sgd g c b:Nat):Int),.nilIface] | none=>.tuple #[vU 0,.iface 63 (vI 4)]):=by
 rcases h with ⟨rfl,rfl,rfl,rfl,rfl,rfl⟩ | ⟨rfl,rfl,rfl,rfl,rfl,rfl⟩
 . rw [show (((255:Nat):Int))=255 from rfl]
   cases h:pk 23 255 (-149) m p with
   | none=>exact zS w hT fun W hW=>zL c hm m0 hp0 h W hW
   | some b=>exact zS w hT fun W hW=>zO c hm m0 hp0 h W hW
 . rw [show (((2047:Nat):Int))=2047 from rfl]
   cases h:pk 52 2047 (-1074) m p with
   | none=>exact zT w hT fun W hW=>zN c hm m0 hp0 h W hW
   | some b=>exact zT w hT fun W hW=>zP c hm m0 hp0 h W hW
theorem xS {m D:Nat}{more:Bool}(hm:m<18446744073709551616):dpK m D more<18446744073709551616:=by
 unfold dpK
 by_cases h:D=0
 . subst h
   unfold dpU
   simpa using hm
 . have a:m / 2 ^ D<=m / 2:=Nat.div_le_div_left (by rw [show D=D - 1+1 from by omega,Nat.pow_succ];have:=Nat.two_pow_pos (D - 1);omega) (by omega)
   split <;> omega
theorem aEE {s:Int}{g n f T:Nat}{L:Int}(hz:Fz s g n f T L) {m:Nat}{e:Int}(c:Bool) (more:Bool) (hm:m<18446744073709551616) (h0:-4398046511104<=e) (h1:e<=4398046511104) (k0:dpK m (dpD f L m e).toNat more=0) (w:World):Cb 208 #[.agg #[vI s,vI ((f:Int)+1),vI L],.bool c,vU (m:Int),vI e,.bool more] w (.tuple #[vU ((sgd g c 0:Nat):Int),.nilIface]):=by
 have HL:=fun W=>aO (m:Int) ⟨by omega,by omega⟩ W
 rw [show aM (m:Int)=(ln m:Int) from bF m hm] at HL
 have hf:f<=52:=by rcases hz with ⟨_,_,_,h,_⟩ | ⟨_,_,_,h,_⟩ <;> omega
 have hL:-1074<=L/\L<=0:=by rcases hz with ⟨_,_,_,_,_,h⟩ | ⟨_,_,_,_,_,h⟩ <;> omega
 have hl:ln m<=64:=(aE m 64).2 (by omega)
 obtain ⟨D,hD⟩:∃ D:Nat,(dpD f L m e).toNat=D:=⟨_,rfl⟩
 have hD':dpD f L m e=(D:Int):=by rw [<- hD];unfold dpD;omega
 have hD2:D<9223372036854775808:=by rw [<- hD];unfold dpD;omega
 have HD:=fun W=>jB hm hD2 more W
 have E:(if (if 0<IntKind.i64.wrap ((ln m:Int) - ((f:Int)+1)) then IntKind.i64.wrap ((ln m:Int) - ((f:Int)+1)) else 0)<IntKind.i64.wrap (L - e) then IntKind.i64.wrap (L - e) else if 0<IntKind.i64.wrap ((ln m:Int) - ((f:Int)+1)) then IntKind.i64.wrap ((ln m:Int) - ((f:Int)+1)) else 0)=(D:Int):=by
  rw [IntWalk.i64_in ((ln m:Int) - ((f:Int)+1)) ⟨by omega,by omega⟩,IntWalk.i64_in (L - e) ⟨by omega,by omega⟩,<- hD']
  unfold dpD
  split <;> split <;> omega
 have HZ:=fun W=>rP hz c W
 rw [hD] at k0
 generalize sgd g c 0=y at *
 rw [k0] at HD
 rw [show ((0:Nat):Int)=0 from rfl] at HD
 have HE:Hid _:=E
 clear E hD hD' hD2 hL hl hf hz k0
 generalize ln m=l at *
 go_enter Tryz.func208,Tryz.ntmps208
 go_upto_region 1 with fail
 go_region_held3 (fun w'=>w'.cell? ⟨w.heap.size,0,none⟩=some (vI s)/\w'.cell? ⟨w.heap.size,1,none⟩=some (vI ((f:Int)+1))/\w'.cell? ⟨w.heap.size,2,none⟩=some (vI L)) (simp [*,go_sem])
  (first
   | (go_at_call 140;refine (HL _).mono ?_;rintro x1 w2 ⟨rfl,hh⟩;subst hh))
 rw [HE.out]
 clear HE
 have B0:Hid (Bl w (w.alloc (.cells #[vI s,vI ((f:Int)+1),vI L] 304)).drew):=(bz _ _).drew
 have G0:Hid (GrB (w.alloc (.cells #[vI s,vI ((f:Int)+1),vI L] 304)).drew w.heap.size _ _ _):=(GrB.new w _ _ _ _).step (Below.refl _ _).drew
 generalize (w.alloc (.cells #[vI s,vI ((f:Int)+1),vI L] 304)).drew=v at *
 go_wp2_with fail
 refine (HD _).mono ?_
 rintro e w1 ⟨rfl,hb⟩
 have B1:Hid (Bl w w1):=B0.out.trans (hb.mono B0.out.size)
 have G1:Hid (GrB w1 w.heap.size _ _ _):=G0.out.step hb
 clear hb B0 G0
 obtain ⟨_,a0,a1,a2,_,_,_⟩:=G1.out
 go_wp2_with fail
 refine (HZ _).mono ?_
 rintro e w2 ⟨rfl,hb⟩
 have B2:Hid (Bl w w2):=B1.out.trans (hb.mono B1.out.size)
 clear hb B1 G1
 go_wp2
 go_ret2
 exact ⟨rfl,B2.out⟩
theorem aED {s:Int}{g n f T:Nat}{L:Int}(hz:Fz s g n f T L) {m:Nat}{e:Int}(c:Bool) (more:Bool) (hm:m<18446744073709551616) (h0:-4398046511104<=e) (h1:e<=4398046511104) {b:Nat}(k0:dpK m (dpD f L m e).toNat more ≠ 0) (hp:pk f (T:Int) L (dpK m (dpD f L m e).toNat more) (e+dpD f L m e)=some b) (w:World) (hT:Tab w):Cb 208 #[.agg #[vI s,vI ((f:Int)+1),vI L],.bool c,vU (m:Int),vI e,.bool more] w (.tuple #[vU ((sgd g c b:Nat):Int),.nilIface]):=by
 have HL:=fun W=>aO (m:Int) ⟨by omega,by omega⟩ W
 rw [show aM (m:Int)=(ln m:Int) from bF m hm] at HL
 have hf:f<=52:=by rcases hz with ⟨_,_,_,h,_⟩ | ⟨_,_,_,h,_⟩ <;> omega
 have hL:-1074<=L/\L<=0:=by rcases hz with ⟨_,_,_,_,_,h⟩ | ⟨_,_,_,_,_,h⟩ <;> omega
 have hl:ln m<=64:=(aE m 64).2 (by omega)
 obtain ⟨D,hD⟩:∃ D:Nat,(dpD f L m e).toNat=D:=⟨_,rfl⟩
 have hD':dpD f L m e=(D:Int):=by rw [<- hD];unfold dpD;omega
 have hD2:D<9223372036854775808:=by rw [<- hD];unfold dpD;omega
 have HD:=fun W=>jB hm hD2 more W
 have E:(if (if 0<IntKind.i64.wrap ((ln m:Int) - ((f:Int)+1)) then IntKind.i64.wrap ((ln m:Int) - ((f:Int)+1)) else 0)<IntKind.i64.wrap (L - e) then IntKind.i64.wrap (L - e) else if 0<IntKind.i64.wrap ((ln m:Int) - ((f:Int)+1)) then IntKind.i64.wrap ((ln m:Int) - ((f:Int)+1)) else 0)=(D:Int):=by
  rw [IntWalk.i64_in ((ln m:Int) - ((f:Int)+1)) ⟨by omega,by omega⟩,IntWalk.i64_in (L - e) ⟨by omega,by omega⟩,<- hD']
  unfold dpD
  split <;> split <;> omega
 rw [hD] at k0
 rw [hD,hD'] at hp
 have kl:dpK m D more<18446744073709551616:=xS hm
 have HP:∀ W,Tab W -> Cb 141 #[.agg #[.bool c,vI 2,vU ((dpK m D more:Nat):Int),vI (e+(D:Int))],vI s] W (.tuple #[vU ((sgd g c b:Nat):Int),.nilIface]):=fun W hW=>by
  have h:=rA (p:=e+(D:Int)) hz c kl k0 (by omega) W hW
  rw [hp] at h
  exact h
 have q0:(((dpK m D more:Nat):Int) == 0)=false:=by simp;omega
 have ei:-9223372036854775808<=e+(D:Int)/\e+(D:Int)<9223372036854775808:=by rw [<- hD'];unfold dpD;omega
 obtain ⟨ei1,ei2⟩:=ei
 have HT:Hid (Tab w):=hT
 generalize sgd g c b=y at *
 have HE:Hid _:=E
 clear E hD hD' hD2 hL hl hf hz kl k0 hp hT
 generalize ln m=l at *
 generalize dpK m D more=k at *
 go_enter Tryz.func208,Tryz.ntmps208
 go_upto_region 1 with fail
 go_region_held3 (fun w'=>w'.cell? ⟨w.heap.size,0,none⟩=some (vI s)/\w'.cell? ⟨w.heap.size,1,none⟩=some (vI ((f:Int)+1))/\w'.cell? ⟨w.heap.size,2,none⟩=some (vI L)) (simp [*,go_sem])
  (first
   | (go_at_call 140;refine (HL _).mono ?_;rintro x1 w2 ⟨rfl,hh⟩;subst hh))
 rw [HE.out]
 clear HE
 have B0:Hid (Bl w (w.alloc (.cells #[vI s,vI ((f:Int)+1),vI L] 304)).drew):=(bz _ _).drew
 have G0:Hid (GrB (w.alloc (.cells #[vI s,vI ((f:Int)+1),vI L] 304)).drew w.heap.size _ _ _):=(GrB.new w _ _ _ _).step (Below.refl _ _).drew
 generalize (w.alloc (.cells #[vI s,vI ((f:Int)+1),vI L] 304)).drew=v at *
 go_wp2_with fail
 refine (HD _).mono ?_
 rintro e w1 ⟨rfl,hb⟩
 have B1:Hid (Bl w w1):=B0.out.trans (hb.mono B0.out.size)
 have G1:Hid (GrB w1 w.heap.size _ _ _):=G0.out.step hb
 clear hb B0 G0
 obtain ⟨_,a0,a1,a2,_,_,_⟩:=G1.out
 go_wp2_with fail
 refine (HP _ (HT.out.below B1.out HT.out.pos)).mono ?_
 rintro e w2 ⟨rfl,hb⟩
 have B2:Hid (Bl w w2):=B1.out.trans (hb.mono B1.out.size)
 clear hb B1 G1
 go_wp2
 go_ret2
 exact ⟨rfl,B2.out⟩
theorem aEC {s:Int}{g n f T:Nat}{L:Int}(hz:Fz s g n f T L) {m:Nat}{e:Int}(c:Bool) (more:Bool) (hm:m<18446744073709551616) (h0:-4398046511104<=e) (h1:e<=4398046511104) (k0:dpK m (dpD f L m e).toNat more ≠ 0) (hp:pk f (T:Int) L (dpK m (dpD f L m e).toNat more) (e+dpD f L m e)=none) (w:World) (hT:Tab w):Cb 208 #[.agg #[vI s,vI ((f:Int)+1),vI L],.bool c,vU (m:Int),vI e,.bool more] w (.tuple #[vU ((sgd g c (T * 2 ^ f):Nat):Int),.iface 63 (vI 4)]):=by
 have HL:=fun W=>aO (m:Int) ⟨by omega,by omega⟩ W
 rw [show aM (m:Int)=(ln m:Int) from bF m hm] at HL
 have hf:f<=52:=by rcases hz with ⟨_,_,_,h,_⟩ | ⟨_,_,_,h,_⟩ <;> omega
 have hL:-1074<=L/\L<=0:=by rcases hz with ⟨_,_,_,_,_,h⟩ | ⟨_,_,_,_,_,h⟩ <;> omega
 have hl:ln m<=64:=(aE m 64).2 (by omega)
 obtain ⟨D,hD⟩:∃ D:Nat,(dpD f L m e).toNat=D:=⟨_,rfl⟩
 have hD':dpD f L m e=(D:Int):=by rw [<- hD];unfold dpD;omega
 have hD2:D<9223372036854775808:=by rw [<- hD];unfold dpD;omega
 have HD:=fun W=>jB hm hD2 more W
 have E:(if (if 0<IntKind.i64.wrap ((ln m:Int) - ((f:Int)+1)) then IntKind.i64.wrap ((ln m:Int) - ((f:Int)+1)) else 0)<IntKind.i64.wrap (L - e) then IntKind.i64.wrap (L - e) else if 0<IntKind.i64.wrap ((ln m:Int) - ((f:Int)+1)) then IntKind.i64.wrap ((ln m:Int) - ((f:Int)+1)) else 0)=(D:Int):=by
  rw [IntWalk.i64_in ((ln m:Int) - ((f:Int)+1)) ⟨by omega,by omega⟩,IntWalk.i64_in (L - e) ⟨by omega,by omega⟩,<- hD']
  unfold dpD
  split <;> split <;> omega
 rw [hD] at k0
 rw [hD,hD'] at hp
 have kl:dpK m D more<18446744073709551616:=xS hm
 have HP:∀ W,Tab W -> Cb 141 #[.agg #[.bool c,vI 2,vU ((dpK m D more:Nat):Int),vI (e+(D:Int))],vI s] W (.tuple #[vU 0,.iface 63 (vI 4)]):=fun W hW=>by
  have h:=rA (p:=e+(D:Int)) hz c kl k0 (by omega) W hW
  rw [hp] at h
  exact h
 have HI:=fun W=>nT hz c W
 have q0:(((dpK m D more:Nat):Int) == 0)=false:=by simp;omega
 have ei:-9223372036854775808<=e+(D:Int)/\e+(D:Int)<9223372036854775808:=by rw [<- hD'];unfold dpD;omega
 obtain ⟨ei1,ei2⟩:=ei
 have HT:Hid (Tab w):=hT
 generalize sgd g c (T * 2 ^ f)=y at *
 have HE:Hid _:=E
 clear E hD hD' hD2 hL hl hf hz kl k0 hp hT
 generalize ln m=l at *
 generalize dpK m D more=k at *
 go_enter Tryz.func208,Tryz.ntmps208
 go_upto_region 1 with fail
 go_region_held3 (fun w'=>w'.cell? ⟨w.heap.size,0,none⟩=some (vI s)/\w'.cell? ⟨w.heap.size,1,none⟩=some (vI ((f:Int)+1))/\w'.cell? ⟨w.heap.size,2,none⟩=some (vI L)) (simp [*,go_sem])
  (first
   | (go_at_call 140;refine (HL _).mono ?_;rintro x1 w2 ⟨rfl,hh⟩;subst hh))
 rw [HE.out]
 clear HE
 have B0:Hid (Bl w (w.alloc (.cells #[vI s,vI ((f:Int)+1),vI L] 304)).drew):=(bz _ _).drew
 have G0:Hid (GrB (w.alloc (.cells #[vI s,vI ((f:Int)+1),vI L] 304)).drew w.heap.size _ _ _):=(GrB.new w _ _ _ _).step (Below.refl _ _).drew
 generalize (w.alloc (.cells #[vI s,vI ((f:Int)+1),vI L] 304)).drew=v at *
 go_wp2_with fail
 refine (HD _).mono ?_
 rintro e w1 ⟨rfl,hb⟩
 have B1:Hid (Bl w w1):=B0.out.trans (hb.mono B0.out.size)
 have G1:Hid (GrB w1 w.heap.size _ _ _):=G0.out.step hb
 clear hb B0 G0
 obtain ⟨_,a0,a1,a2,_,_,_⟩:=G1.out
 go_wp2_with fail
 refine (HP _ (HT.out.below B1.out HT.out.pos)).mono ?_
 rintro e w2 ⟨rfl,hb⟩
 have B2:Hid (Bl w w2):=B1.out.trans (hb.mono B1.out.size)
 have G2:Hid (GrB w2 w.heap.size _ _ _):=G1.out.step hb
 clear hb B1 G1 a0 a1 a2
 obtain ⟨_,a0,a1,a2,_,_,_⟩:=G2.out
 go_wp2_with fail
 refine (HI _).mono ?_
 rintro e w3 ⟨rfl,hb⟩
 have B3:Hid (Bl w w3):=B2.out.trans (hb.mono B2.out.size)
 clear hb B2 G2
 go_wp2
 go_ret2
 exact ⟨rfl,B3.out⟩
theorem aEX {s:Int}{g n f T:Nat}{L:Int}(hz:Fz s g n f T L) {m:Nat}{e:Int}(c:Bool) (more:Bool) (hm:m<18446744073709551616) (h0:-4398046511104<=e) (h1:e<=4398046511104) (w:World) (hT:Tab w):Cb 208 #[.agg #[vI s,vI ((f:Int)+1),vI L],.bool c,vU (m:Int),vI e,.bool more] w (anV g c (ndA f T L m e more)):=by
 unfold ndA
 by_cases k0:dpK m (dpD f L m e).toNat more=0
 . rw [if_pos k0]
   exact aEE hz c more hm h0 h1 k0 w
 . rw [if_neg k0]
   cases hp:pk f (T:Int) L (dpK m (dpD f L m e).toNat more) (e+dpD f L m e) with
   | none=>exact aEC hz c more hm h0 h1 k0 hp w hT
   | some b=>exact aED hz c more hm h0 h1 k0 hp w hT
theorem aEB {w:World}{v:Value}{X:Nat}(h:NatV w v X):X<B ^ 128:=by
 obtain ⟨ao,n,c,b,o,f,rfl,S,t,rfl,hn⟩:=h
 exact Nat.lt_of_lt_of_le (V_lt S.ws n) (Nat.pow_le_pow_right B_pos hn)
theorem aKp {X K:Nat}(h:X<B ^ K):bl X<=64 * K:=by
 rw [cM] at h
 exact gA h
theorem qQ {w:World}{v:Value}{X:Nat}(h:NatV w v X):bl X<=8192:=by
 have a:=aKp (aEB h)
 omega
theorem aLl {q:Nat}(h:2 * q<18446744073709551616):bits .or .u64 ((2 * q:Nat):Int) 1=((2 * q+1:Nat):Int):=by
 have h1:(BitVec.ofInt 64 ((2 * q:Nat):Int)).toNat=2 * q:=by rw [BitVec.ofInt_natCast,BitVec.toNat_ofNat];exact Nat.mod_eq_of_lt (by omega)
 show IntKind.u64.wrap ((BitVec.ofInt 64 ((2 * q:Nat):Int) ||| BitVec.ofInt 64 (1:Int)).toNat:Int)=_
 have e:=Nat.two_pow_add_eq_or_of_lt (i:=1) (b:=1) (by omega) q
 rw [Nat.pow_one] at e
 rw [BitVec.toNat_or,h1,show (BitVec.ofInt 64 (1:Int)).toNat=1 by decide,<- e,IntKind.wrap_u64]
 omega
theorem eH {X s K:Nat}(h:bl X+s<=64 * K):X * 2 ^ s<B ^ K:=by
 rw [cM]
 refine Nat.lt_of_lt_of_le (Nat.mul_lt_mul_of_pos_right (dH X) (Nat.two_pow_pos s)) ?_
 rw [<- Nat.pow_add]
 exact Nat.pow_le_pow_right (by omega) h
theorem uJ {w:World}{v:Value}{X:Nat}(h:NatV w v X):∃ ao n c,v=.slice ao n c/\(n=0 ↔ X=0)/\n<=128:=by
 obtain ⟨ao,n,c,b,o,f,rfl,S,t,rfl,hn⟩:=h
 refine ⟨ao,n,c,rfl,⟨fun z=>by subst z;rfl,fun z=>?_⟩,hn⟩
 apply Nat.eq_zero_of_not_pos
 intro p
 have a:=Top_ge t p
 have:=Nat.pow_pos (n:=n - 1) B_pos
 omega
theorem xB {w:World}{va:Value}{X:Nat}(h:NatV w va X):Cb 224 #[va] w (.tuple #[vI (bl X:Int),.nilIface]):=by
 obtain ⟨ao,n,c,b,o,f,rfl,S,t,rfl,hn⟩:=h
 have T:=tN S
 rw [cS hn t,mN] at T
 exact T
theorem aFS {w:World}{va:Value}{X:Nat}(h:NatV w va X) (hX:X<18446744073709551616):Cb 246 #[va] w (.tuple #[vU (X:Int),.bool true]):=by
 obtain ⟨ao,n,c,b,o,f,rfl,S,t,rfl,hn⟩:=h
 by_cases n0:n=0
 . subst n0
   exact aFT S (cS hn t)
 by_cases n1:n=1
 . subst n1
   have T:=aHR S (cS hn t)
   rw [show V f 1=f 0 from by rw [V_succ];simp [V]]
   exact T
 . exfalso
   have a:=Top_ge t (by omega)
   have c:=Nat.pow_le_pow_right B_pos (show 1<=n - 1 by omega)
   rw [Nat.pow_one] at c
   unfold B at a c
   omega
theorem aGZ {w:World}{vr vd:Value}{q R Y:Nat}(hr:NatV w vr R) (hd:NatV w vd Y) (hq:q<9223372036854775808) (h:2 * R<Y):Calls Tryz.prog 247 #[vU (q:Int),vr,vd] w fun e w'=>∃ v,e=.returned (.tuple #[vU ((2 * q:Nat):Int),v])/\NatV w' v (2 * R)/\Bl w w':=by
 have H1:=aAB hd hr (by omega)
 have H0:Hid (NatV w vr R/\NatV w vd Y/\2 * R<Y):=⟨hr,hd,h⟩
 have e1:(q:Int) * 2=((2 * q:Nat):Int):=by omega
 generalize hQ:2 * q=Q at *
 have hQ2:Q<18446744073709551616:=by omega
 clear hr hd h hQ
 go_enter Tryz.func247,Tryz.ntmps247
 go_wp2_with fail
 refine H1.mono ?_
 rintro e w1 ⟨v1,rfl,n1,b1⟩
 have H2:=aFu (H0.out.1.below b1) n1 (by have:=H0.out.2.2;omega)
 have B1:Hid (Bl w w1):=b1
 clear H1 n1 b1
 go_wp2_with fail
 refine H2.mono ?_
 rintro e w2 ⟨rfl,b2⟩
 have B2:Hid (Bl w w2):=B1.out.trans (b2.mono B1.out.size)
 have H3:=aKb (H0.out.1.below B2.out) (H0.out.1.below B2.out) (by have:=aEB H0.out.2.1;have:=H0.out.2.2;omega)
 clear H2 b2 B1
 go_wp2_with fail
 refine H3.mono ?_
 rintro e w3 ⟨v3,rfl,n3,b3⟩
 have B3:Hid (NatV w3 v3 (R+R)/\Bl w w3):=⟨n3,B2.out.trans (b3.mono B2.out.size)⟩
 clear H3 n3 b3 B2
 go_wp2
 go_ret2
 exact ⟨v3,rfl,by rw [Nat.two_mul];exact B3.out.1,B3.out.2⟩
theorem aEH {w:World}{vr vd:Value}{q R Y:Nat}(hr:NatV w vr R) (hd:NatV w vd Y) (hq:q<9223372036854775808) (h:Y<=2 * R) (hy:R<Y):Calls Tryz.prog 247 #[vU (q:Int),vr,vd] w fun e w'=>∃ v,e=.returned (.tuple #[vU ((2 * q+1:Nat):Int),v])/\NatV w' v (2 * R - Y)/\Bl w w':=by
 have H1:=aAB hd hr (by omega)
 have H0:Hid (NatV w vr R/\NatV w vd Y/\Y<=2 * R/\R<Y):=⟨hr,hd,h,hy⟩
 have e1:(q:Int) * 2=((2 * q:Nat):Int):=by omega
 have e2:bits .or .u64 ((2 * q:Nat):Int) 1=((2 * q+1:Nat):Int):=aLl (by omega)
 generalize hQ':2 * q+1=Q' at *
 generalize hQ:2 * q=Q at *
 have hQ2:Q<18446744073709551616:=by omega
 clear hr hd h hQ hQ' hy
 go_enter Tryz.func247,Tryz.ntmps247
 go_wp2_with fail
 refine H1.mono ?_
 rintro e w1 ⟨v1,rfl,n1,b1⟩
 have H2:=aAB (H0.out.1.below b1) n1 (by have:=H0.out.2.2;omega)
 have B1:Hid (Bl w w1):=b1
 clear H1 n1 b1
 go_wp2_with fail
 refine H2.mono ?_
 rintro e w2 ⟨v2,rfl,n2,b2⟩
 have B2:Hid (NatV w2 v2 (R - (Y - R))/\Bl w w2):=⟨n2,B1.out.trans (b2.mono B1.out.size)⟩
 clear H2 b2 n2 B1
 go_wp2
 go_ret2
 exact ⟨v2,rfl,by have:=H0.out.2.2;rw [show 2 * R - Y=R - (Y - R) from by omega];exact B2.out.1,B2.out.2⟩
theorem aE2 {X Y a b:Nat}(y0:Y ≠ 0) (h:(a:Int) - (b:Int)=63+(bl Y:Int) - (bl X:Int)):X * 2 ^ a<2 ^ 64 * (Y * 2 ^ b):=by
 have p:=jI y0
 have l:=fN y0
 refine Nat.lt_of_lt_of_le (Nat.mul_lt_mul_of_pos_right (dH X) (Nat.two_pow_pos a)) ?_
 refine Nat.le_trans ?_ (Nat.mul_le_mul_left _ (Nat.mul_le_mul_right _ l))
 rw [<- Nat.pow_add,<- Nat.pow_add,<- Nat.pow_add]
 exact Nat.pow_le_pow_right (by omega) (by omega)
theorem Qt.lt {X Y q r a b:Nat}(y0:Y ≠ 0) (h:Qt X Y q r a b):q<2 ^ 64:=by
 have t:=aE2 y0 h.2.2
 rw [<- h.2.1] at t
 exact Nat.lt_of_mul_lt_mul_right (Nat.lt_of_le_of_lt (Nat.le_add_right _ r) t)
theorem Qt.ge {X Y q r a b:Nat}(x0:X ≠ 0) (h:Qt X Y q r a b):2 ^ 62<=q:=by
 obtain ⟨h1,h2,h3⟩:=h
 have p:=jI x0
 have l:=fN x0
 have low:2 ^ 62 * (Y * 2 ^ b)<=X * 2 ^ a:=by
  refine Nat.le_trans (Nat.mul_le_mul_left _ (Nat.mul_le_mul_right _ (Nat.le_of_lt (dH Y)))) ?_
  refine Nat.le_trans ?_ (Nat.mul_le_mul_right _ l)
  rw [<- Nat.pow_add,<- Nat.pow_add,<- Nat.pow_add]
  exact Nat.pow_le_pow_right (by omega) (by omega)
 rw [<- h2] at low
 have k:2 ^ 62 * (Y * 2 ^ b)<(q+1) * (Y * 2 ^ b):=by
  rw [Nat.add_mul,Nat.one_mul]
  exact Nat.lt_of_le_of_lt low (Nat.add_lt_add_left h1 _)
 exact Nat.le_of_lt_succ (Nat.lt_of_mul_lt_mul_right k)
theorem Qt.eqv {X Y q r a b:Nat}{e:Int}(h:Qt X Y q r a b):Eqv (X * (Y * 2 ^ b)) e ((q * (Y * 2 ^ b)+r) * Y) (e - (63+(bl Y:Int) - (bl X:Int))):=by
 obtain ⟨h1,h2,h3⟩:=h
 rw [h2,<- h3]
 have s1:=Eqv.shl (X * Y) (e+b) b
 have s2:=Eqv.shl (X * Y) (e+b) a
 rw [show e+(b:Int) - b=e from by omega] at s1
 rw [show e+(b:Int) - (a:Int)=e - ((a:Int) - b) from by omega] at s2
 rw [show X * (Y * 2 ^ b)=X * Y * 2 ^ b from by rw [Nat.mul_assoc],show X * 2 ^ a * Y=X * Y * 2 ^ a from Nat.mul_right_comm _ _ _]
 exact s1.symm.trans s2
theorem aBG {X lw q r i a:Nat}(h:q * lw+r=X * 2 ^ (a+i)):(2 * q) * lw+2 * r=X * 2 ^ (a+(i+1)):=by
 rw [<- Nat.add_assoc,Nat.pow_succ,<- Nat.mul_assoc,<- h,Nat.mul_assoc 2,Nat.add_mul];omega
theorem aJk {X lw q r i a l:Nat}(t:X * 2 ^ (a+l)<2 ^ 64 * lw) (h:q * lw+r=X * 2 ^ (a+i)) (hi:i<l):q<9223372036854775808:=by
 have e:X * 2 ^ (a+l)=X * 2 ^ (a+i) * 2 ^ (l - i):=by rw [Nat.mul_assoc,<- Nat.pow_add];congr 2;omega
 rw [e,<- h] at t
 have two:2<=2 ^ (l - i):=by
  have:=Nat.pow_le_pow_right (n:=2) (by omega) (show 1<=l - i by omega)
  omega
 have t2:=Nat.lt_of_le_of_lt (Nat.mul_le_mul_left (q * lw+r) two) t
 apply Nat.lt_of_not_le
 intro c
 have:=Nat.mul_le_mul_right lw c
 omega
theorem aJl {w:World}(hT:Tab w) {vn vd:Value}{X Y:Nat}(hn:NatV w vn X) (hd:NatV w vd Y) (y0:Y ≠ 0) :
 Calls Tryz.prog 207 #[vn,vd] w fun e w'=>∃ q r a b:Nat,e=.returned (.tuple #[vU (q:Int),vI (63+(bl Y:Int) - (bl X:Int)),.bool (decide (r ≠ 0))])/\Qt X Y q r a b/\Bl w w':=by
 have H1:=xB hn
 have hN:=qQ hn
 have hM:=qQ hd
 have H0:Hid (NatV w vn X/\NatV w vd Y/\Tab w/\Y ≠ 0):=⟨hn,hd,hT,y0⟩
 clear hn hd hT y0
 obtain ⟨N,eN⟩:∃ N,bl X=N:=⟨_,rfl⟩
 obtain ⟨M,eM⟩:∃ M,bl Y=M:=⟨_,rfl⟩
 rw [eN] at H1 hN ⊢
 rw [eM] at hM ⊢
 have HM:Hid (bl X=N/\bl Y=M):=⟨eN,eM⟩
 clear eN eM
 go_enter Tryz.func207,Tryz.ntmps207
 go_wp2_with fail
 refine H1.mono ?_
 rintro e w1 ⟨rfl,b1⟩
 have H2:=xB (H0.out.2.1.below b1)
 rw [HM.out.2] at H2
 have B1:Hid (Bl w w1):=b1
 clear b1 H1
 go_wp2_with fail
 refine H2.mono ?_
 rintro e w2 ⟨rfl,b2⟩
 have B2:Hid (Bl w w2):=B1.out.trans (b2.mono B1.out.size)
 clear b2 H2 B1
 go_upto_region 4 with fail
 go_cut [11] (fun s wx=>wx=w2/\∃ l:Nat,s=vI (l:Int)/\(l:Int)=max 0 (63+(M:Int) - 8192))
 case first =>
  by_cases c:8192<63+(M:Int)
  . obtain ⟨l,hl⟩:∃ l:Nat,63+(M:Int) - 8192=(l:Int):=⟨(63+(M:Int) - 8192).toNat,by omega⟩
    go_wp2
    all_goals first | (exfalso;omega) | skip
    go_meet
    exact ⟨rfl,l,rfl,by omega⟩
  . go_wp2
    all_goals first | (exfalso;omega) | skip
    go_meet
    exact ⟨rfl,0,rfl,by omega⟩
 case rest =>
 obtain ⟨hcw,l,rfl,hl⟩:=hcut
 subst hcw
 have hl2:l<=63:=by omega
 have HL:Hid ((l:Int)=max 0 (63+(M:Int) - 8192)):=hl
 clear hl
 go_upto_region 5 with fail
 go_cut [12,13] (fun u v wx=>v=.nilIface/\∃ a:Nat,NatV wx u (X * 2 ^ a)/\Bl w wx/\(a:Int)=max 0 (63+(M:Int) - (N:Int) - (l:Int)))
 case first =>
  by_cases c:0<63+(M:Int) - (N:Int) - (l:Int)
  . obtain ⟨a,ha⟩:∃ a:Nat,63+(M:Int) - (N:Int) - (l:Int)=(a:Int):=⟨(63+(M:Int) - (N:Int) - (l:Int)).toNat,by omega⟩
    have e0:a<=8192/\bl X+a<=64 * 128:=by have:=HM.out;have:=HL.out;omega
    have T:=eW (H0.out.1.below B2.out) a (eH e0.2) e0.1
    clear e0
    go_wp2_with fail
    all_goals first | (exfalso;omega) | skip
    refine T.mono ?_
    rintro e wa ⟨va,rfl,na,ba⟩
    have N1:Hid (NatV wa va (X * 2 ^ a)/\Bl wc wa):=⟨na,ba⟩
    clear na ba T
    go_wp2
    go_meet
    exact ⟨rfl,a,N1.out.1,B2.out.trans (N1.out.2.mono B2.out.size),by omega⟩
  . have e0:bl X+0<=64 * 128:=by have:=HM.out;have:=HL.out;omega
    have T:=eW (H0.out.1.below B2.out) 0 (eH e0) (by omega)
    clear e0
    rw [show ((0:Nat):Int)=0 from rfl] at T
    go_wp2_with fail
    all_goals first | (exfalso;omega) | skip
    refine T.mono ?_
    rintro e wa ⟨va,rfl,na,ba⟩
    have N1:Hid (NatV wa va (X * 2 ^ 0)/\Bl wc wa):=⟨na,ba⟩
    clear na ba T
    go_wp2
    go_meet
    exact ⟨rfl,0,N1.out.1,B2.out.trans (N1.out.2.mono B2.out.size),by omega⟩
 case rest =>
 obtain ⟨rfl,a,na,ba,ha⟩:=hcut
 have N3:Hid (NatV wc u12 (X * 2 ^ a)/\Bl w wc/\(a:Int)=max 0 (63+(M:Int) - (N:Int) - (l:Int))):=⟨na,ba,ha⟩
 clear na ba ha
 go_upto_region 6 with fail
 go_cut [14,15] (fun u v wx=>v=.nilIface/\∃ b:Nat,NatV wx u (Y * 2 ^ b)/\Bl w wx/\NatV wx u12 (X * 2 ^ a)/\(b:Int)=max 0 ((l:Int) - (63+(M:Int) - (N:Int))))
 case first =>
  by_cases c:0<(l:Int) - (63+(M:Int) - (N:Int))
  . obtain ⟨b,hb⟩:∃ b:Nat,(l:Int) - (63+(M:Int) - (N:Int))=(b:Int):=⟨((l:Int) - (63+(M:Int) - (N:Int))).toNat,by omega⟩
    have e0:b<=8192/\bl Y+b<=64 * 128:=by have:=HM.out;have:=HL.out;omega
    have T:=eW (H0.out.2.1.below N3.out.2.1) b (eH e0.2) e0.1
    clear e0
    go_wp2_with fail
    all_goals first | (exfalso;omega) | skip
    refine T.mono ?_
    rintro e wa ⟨va,rfl,na,ba⟩
    have N1:Hid (NatV wa va (Y * 2 ^ b)/\Bl wc wa):=⟨na,ba⟩
    clear na ba T
    go_wp2
    go_meet
    exact ⟨rfl,b,N1.out.1,N3.out.2.1.trans (N1.out.2.mono N3.out.2.1.size),N3.out.1.below N1.out.2,by omega⟩
  . have e0:bl Y+0<=64 * 128:=by have:=HM.out;have:=HL.out;omega
    have T:=eW (H0.out.2.1.below N3.out.2.1) 0 (eH e0) (by omega)
    clear e0
    rw [show ((0:Nat):Int)=0 from rfl] at T
    go_wp2_with fail
    all_goals first | (exfalso;omega) | skip
    refine T.mono ?_
    rintro e wa ⟨va,rfl,na,ba⟩
    have N1:Hid (NatV wa va (Y * 2 ^ 0)/\Bl wc wa):=⟨na,ba⟩
    clear na ba T
    go_wp2
    go_meet
    exact ⟨rfl,0,N1.out.1,N3.out.2.1.trans (N1.out.2.mono N3.out.2.1.size),N3.out.1.below N1.out.2,by omega⟩
 case rest =>
 obtain ⟨rfl,b,nb,bb,nb2,hb⟩:=hcut
 have HT:=H0.out.2.2.1.next bb
 have hl0:Y * 2 ^ b ≠ 0:=Nat.mul_ne_zero H0.out.2.2.2 (Nat.ne_of_gt (Nat.two_pow_pos b))
 have D:=aDD HT nb2 nb hl0
 have hab:((a+l:Nat):Int) - (b:Int)=63+(bl Y:Int) - (bl X:Int):=by
  have h1:=N3.out.2.2
  have h2:=HM.out
  have h3:=HL.out
  rw [h2.1,h2.2]
  omega
 have top:X * 2 ^ (a+l)<2 ^ 64 * (Y * 2 ^ b):=aE2 H0.out.2.2.2 hab
 have N4:Hid (NatV wc u14 (Y * 2 ^ b)/\Bl w wc/\Y * 2 ^ b ≠ 0/\((a+l:Nat):Int) - (b:Int)=63+(bl Y:Int) - (bl X:Int)/\X * 2 ^ (a+l)<2 ^ 64 * (Y * 2 ^ b)):=⟨nb,bb,hl0,hab,top⟩
 clear nb bb nb2 hb HT hl0 hab top N3 B2
 generalize hlw:Y * 2 ^ b=lw at *
 have q0:X * 2 ^ a / lw<18446744073709551616:=by
  rw [Nat.div_lt_iff_lt_mul (Nat.pos_of_ne_zero N4.out.2.2.1)]
  refine Nat.lt_of_le_of_lt (Nat.mul_le_mul_left X (Nat.pow_le_pow_right (by omega) (Nat.le_add_right a l))) ?_
  exact N4.out.2.2.2.2
 have e0:X * 2 ^ a / lw * lw+X * 2 ^ a % lw=X * 2 ^ (a+0):=by rw [Nat.mul_comm];exact Nat.div_add_mod _ _
 have r0:X * 2 ^ a % lw<lw:=Nat.mod_lt _ (Nat.pos_of_ne_zero N4.out.2.2.1)
 have N5:Hid (X * 2 ^ a / lw * lw+X * 2 ^ a % lw=X * 2 ^ (a+0)/\X * 2 ^ a % lw<lw/\Y * 2 ^ b=lw):=⟨e0,r0,hlw⟩
 clear e0 r0 hlw
 generalize X * 2 ^ a / lw=q at *
 generalize X * 2 ^ a % lw=r at *
 go_wp2_with fail
 refine D.mono ?_
 rintro e w5 ⟨v1,v2,rfl,n1,n2,b5⟩
 have W:=aFS n1 q0
 have N6:Hid (NatV w5 v2 r/\NatV w5 u14 lw/\Bl w w5):=⟨n2,N4.out.1.below b5,N4.out.2.1.trans (b5.mono N4.out.2.1.size)⟩
 clear n1 n2 b5 D
 go_wp2_with fail
 refine W.mono ?_
 rintro e w6 ⟨rfl,b6⟩
 have N7:Hid (NatV w6 v2 r/\NatV w6 u14 lw/\Bl w w6):=⟨N6.out.1.below b6,N6.out.2.1.below b6,N6.out.2.2.trans (b6.mono N6.out.2.2.size)⟩
 clear b6 N6 W
 go_wp2
 go_loopw [4,17,68] (fun qv rv iv wr=>∃ (i q r:Nat),iv=vI (i:Int)/\qv=vU (q:Int)/\i<=l/\Hid (NatV wr rv r/\NatV wr u14 lw/\Bl w wr/\q * lw+r=X * 2 ^ (a+i)/\r<lw)) (fun _ _ iv _=>(l - intOf iv).toNat)
 case atStart=>exact ⟨0,q,r,rfl,rfl,by omega,N7.out.1,N7.out.2.1,N7.out.2.2,N5.out.1,N5.out.2.1⟩
 case round =>
  clear N7 q0
  have HY:=N5.out.2.2
  clear N5
  obtain ⟨i,q,r,rfl,rfl,hi,HI⟩:=hrel
  by_cases c:i<l
  . have hq:=aJk N4.out.2.2.2.2 HI.out.2.2.2.1 c
    by_cases cc:2 * r<lw
    . have T:=aGZ HI.out.1 HI.out.2.1 hq cc
      have F:Hid ((2 * q) * lw+2 * r=X * 2 ^ (a+(i+1))/\2 * r<lw):=⟨aBG HI.out.2.2.2.1,cc⟩
      clear hq cc
      generalize 2 * q=q' at *
      generalize 2 * r=r' at *
      go_wp2_with fail
      refine T.mono ?_
      rintro e w7 ⟨v7,rfl,n7,b7⟩
      have N8:Hid (NatV w7 v7 r'/\NatV w7 u14 lw/\Bl w w7):=⟨n7,HI.out.2.1.below b7,HI.out.2.2.1.trans (b7.mono HI.out.2.2.1.size)⟩
      clear n7 b7 T
      go_wp2
      go_roundw
      case rel=>exact ⟨i+1,q',r',by push_cast;rfl,rfl,by omega,N8.out.1,N8.out.2.1,N8.out.2.2,F.out.1,F.out.2⟩
      case measure=>simp [intOf];omega
    . have T:=aEH HI.out.1 HI.out.2.1 hq (by omega) HI.out.2.2.2.2
      have F:Hid ((2 * q+1) * lw+(2 * r - lw)=X * 2 ^ (a+(i+1))/\2 * r - lw<lw):=by
       have h:=aBG HI.out.2.2.2.1
       have h2:=HI.out.2.2.2.2
       refine ⟨?_,by omega⟩
       rw [<- h,Nat.add_mul,Nat.one_mul]
       omega
      clear hq cc
      generalize 2 * q+1=q' at *
      generalize 2 * r - lw=r' at *
      go_wp2_with fail
      refine T.mono ?_
      rintro e w7 ⟨v7,rfl,n7,b7⟩
      have N8:Hid (NatV w7 v7 r'/\NatV w7 u14 lw/\Bl w w7):=⟨n7,HI.out.2.1.below b7,HI.out.2.2.1.trans (b7.mono HI.out.2.2.1.size)⟩
      clear n7 b7 T
      go_wp2
      go_roundw
      case rel=>exact ⟨i+1,q',r',by push_cast;rfl,rfl,by omega,N8.out.1,N8.out.2.1,N8.out.2.2,F.out.1,F.out.2⟩
      case measure=>simp [intOf];omega
  . obtain rfl:i=l:=by omega
    obtain ⟨ao,n,cp,rfl,hn0,hn⟩:=uJ HI.out.1
    have F:Hid (Qt X Y q r (a+i) b):=⟨by rw [HY];exact HI.out.2.2.2.2,by rw [HY];exact HI.out.2.2.2.1,N4.out.2.2.2.1⟩
    have dn:decide (0<n)=decide (r ≠ 0):=by
     rw [decide_eq_decide];omega
    clear hn0
    go_wp2
    rw [show (!decide (r=0))=decide (r ≠ 0) from by simp]
    exact bodyPost_ret (v:=.tuple #[vU (q:Int),vI (63+(M:Int) - (N:Int)),.bool (decide (r ≠ 0))]) (by simp [results,Tryz.results207,go_sem]) rfl ⟨q,r,a+i,b,rfl,F.out,HI.out.2.2.1⟩
theorem aL4 {w:World}{ao:Option Addr}{n cn bn on:Nat}{F:Nat -> Nat}(S:Sl w ao n cn bn on F) {bo:Option Addr}{m cm bm om:Nat}{G:Nat -> Nat}(S':Sl w bo m cm bm om G) (h:bE F n=0) (h':bE G m=0):Cb 205 #[.slice ao n cn,.slice bo m cm] w (if m=0 then aZ 10 else aZ 0):=by
 have T:=bV S
 rw [h,show aZ 0=Value.nilIface from rfl] at T
 have T2:∀ W,Bl w W -> _:=fun W hb=>bV (S'.below hb)
 rw [h',show aZ 0=Value.nilIface from rfl] at T2
 have hm:=S'.le
 have hm2:=S'.cap
 clear S S' h h'
 go_enter Tryz.func205,Tryz.ntmps205
 go_wp2_with fail
 refine T.mono ?_
 rintro e w1 ⟨rfl,b1⟩
 have T3:=T2 w1 b1
 have B1:Hid (Bl w w1):=b1
 clear b1 T2
 go_wp2_with fail
 refine T3.mono ?_
 rintro e w2 ⟨rfl,b2⟩
 have B2:Hid (Bl w w2):=B1.out.trans (b2.mono B1.out.size)
 clear b2 T3
 by_cases c:m=0
 . subst c
   go_wp2
   go_ret
   exact ⟨rfl,B2.out⟩
 . have c2:((m:Int) == 0)=false:=by simp;omega
   go_wp2
   go_ret
   exact ⟨rfl,B2.out⟩
theorem aAc {s:Int}{g n' f T:Nat}{L:Int}(hz:Fz s g n' f T L) (c:Bool) {vn vd:Value}{X Y:Nat}{e:Int}(h0:-1099511627776<=e) (h1:e<=1099511627776) {w:World}(hT:Tab w) (hn:NatV w vn X) (hd:NatV w vd Y) (y0:Y ≠ 0):Cb 161 #[vI s,.bool c,vn,vd,vI e] w (anV g c (rdA f T L X Y e false)):=by
 have hf:0<f/\f<=52/\2<=T:=by rcases hz with ⟨_,_,_,h,h',_⟩ | ⟨_,_,_,h,h',_⟩ <;> omega
 have HF:∀ W,Bl w W -> Cb 205 #[vn,vd] W .nilIface:=fun W hb=>by
  have hs:=uJ hd
  obtain ⟨ao,n,c,b,o,F,rfl,S,t,rfl,hn⟩:=hn
  obtain ⟨bo,m,c',b',o',G,rfl,S',t',rfl,hm⟩:=hd
  obtain ⟨_,_,_,e,hm0,_⟩:=hs
  cases e
  have h:=aL4 (S.below hb) (S'.below hb) (cS hn t) (cS hm t')
  rw [if_neg (fun z=>y0 (hm0.1 z))] at h
  exact h
 have H:=fun W=>yJ hz W
 have HE:=fun W=>aDf h0 h1 W
 have bX:=qQ hn
 have bY:=qQ hd
 have HT:Hid (Tab w/\NatV w vn X/\NatV w vd Y/\Y ≠ 0):=⟨hT,hn,hd,y0⟩
 have HN:∀ (q r a b:Nat),Qt X Y q r a b -> ∀ W,Tab W -> Cb 208 #[.agg #[vI s,vI ((f:Int)+1),vI L],.bool c,vU (q:Int),vI (e - (63+(bl Y:Int) - (bl X:Int))),.bool (decide (r ≠ 0))] W (anV g c (rdA f T L X Y e false)):=fun q r a b h W hW=>by
  have k:ndA f T L q (e - (63+(bl Y:Int) - (bl X:Int))) (decide (r ≠ 0))=rdA f T L X Y e false:=by
   by_cases x0:X=0
   . subst x0
     obtain ⟨rfl,rfl⟩:=h.none y0
     rw [zH hf.1 hf.2.2 _ (by omega)]
     unfold rdA
     rw [if_pos rfl,if_pos rfl]
   . exact aGY hf.1 hf.2.1 hf.2.2 x0 y0 h.1 (h.ge x0) (h.lt y0) h.eqv
  rw [<- k]
  exact aEX hz c (decide (r ≠ 0)) (by have:=h.lt y0;omega) (by omega) (by omega) W hW
 unfold anV at HN ⊢
 generalize sgd g c (rdA f T L X Y e false).1=y at *
 generalize (if (rdA f T L X Y e false).2=true then Value.iface 63 (vI 4) else .nilIface)=V at *
 clear hz hf hT hn hd y0
 generalize hN:bl X=N at *
 generalize hM:bl Y=M at *
 go_enter Tryz.func161,Tryz.ntmps161
 go_wp2_with fail
 refine (H _).mono ?_
 rintro e w1 ⟨rfl,b1⟩
 have B1:Hid (Bl w w1):=b1
 clear b1 H
 have B2:Hid (Bl w (w1.alloc (.cells #[vI s,vI ((f:Int)+1),vI L] 304))):=B1.out.alloc B1.out.size _
 have G2:Hid (GrB (w1.alloc (.cells #[vI s,vI ((f:Int)+1),vI L] 304)) w1.heap.size _ _ _):=GrB.new w1 _ _ _ _
 have TF:=HF _ B2.out
 clear B1 HF
 go_wp2_with fail
 refine TF.mono ?_
 rintro x w3 ⟨rfl,b3⟩
 have B3:Hid (Bl w w3):=B2.out.trans (b3.mono B2.out.size)
 have G3:Hid (GrB w3 w1.heap.size _ _ _):=G2.out.step b3
 clear b3 TF B2 G2
 go_wp2_with fail
 refine (HE _).mono ?_
 rintro x w4 ⟨rfl,h4⟩
 subst h4
 have TQ:=aJl (HT.out.1.next B3.out) (HT.out.2.1.below B3.out) (HT.out.2.2.1.below B3.out) HT.out.2.2.2
 rw [hN,hM] at TQ
 clear HE
 go_wp2_with fail
 refine TQ.mono ?_
 rintro x w5 ⟨q,r,a,b,rfl,hq,b5⟩
 have B5:Hid (Bl w w5):=B3.out.trans (b5.mono B3.out.size)
 have G5:Hid (GrB w5 w1.heap.size _ _ _):=G3.out.step b5
 have TN:=HN q r a b hq w5 (HT.out.1.next B5.out)
 clear b5 TQ B3 G3 HN hq
 generalize decide (r ≠ 0)=fl at *
 obtain ⟨_,a0,a1,a2,_,_,_⟩:=G5.out
 go_wp2_with fail
 refine TN.mono ?_
 rintro x w6 ⟨rfl,b6⟩
 have B6:Hid (Bl w w6):=B5.out.trans (b6.mono B5.out.size)
 clear b6
 go_wp2
 go_ret2
 exact ⟨rfl,B6.out⟩
theorem aMq {s:Int}{g n f T:Nat}{L:Int}(h:Fz s g n f T L) {b:Nat}(hb:b<2 * g) (w:World):Cb 139 #[vU (b:Int),vI s] w (.tuple #[.agg #[.bool (uN g n b),vI (cl n (mg g b)),vU ((uM n f (mg g b):Nat):Int),vI (uE n f L (mg g b))],.nilIface]):=by
 rcases h with ⟨rfl,rfl,rfl,rfl,rfl,rfl⟩ | ⟨rfl,rfl,rfl,rfl,rfl,rfl⟩
 . exact nI hb w
 . exact nJ hb w
theorem aAQ {s b:Int}{x0:Bool}{x2 x3:Int}{w:World}(H:∀ W,Cb 139 #[vU b,vI s] W (.tuple #[.agg #[.bool x0,vI 2,vU x2,vI x3],.nilIface])):Cb 243 #[vU b,vI s] w (.tuple #[.agg #[.bool x0,vI 2,vU x2,vI x3],.nilIface]):=by
 go_enter Tryz.func243,Tryz.ntmps243
 go_wp2_with fail
 refine (H _).mono ?_
 rintro e w1 ⟨rfl,hb⟩
 have X1:Hid (FlB w1 w.heap.size _ _ _ _):=(FlB.new w (.bool false) (vI 0) (vU 0) (vI 0) 226).step hb
 have B1:Hid (Bl w w1):=(bz _ _).trans (hb.mono (by simp))
 clear hb
 obtain ⟨l,a0,a1,a2,a3,f0,f1,f2,f3⟩:=X1.out
 go_wp2
 exact bodyPost_ret (v:=.tuple #[.agg #[.bool x0,vI 2,vU x2,vI x3],.nilIface]) (by simp [results,Tryz.results243,go_sem,World.cell?_setCell_same,World.cell?_setCell_other,World.cell?_alloc_lt, *]) rfl ⟨rfl,((((B1.out.setCell (Nat.le_refl _) _).setCell (Nat.le_refl _) _).setCell (Nat.le_refl _) _).setCell (Nat.le_refl _) _).alloc (by simp;omega) _⟩
theorem aAR {s:Int}{g n f T:Nat}{L:Int}(hz:Fz s g n f T L) {b:Int}{x0:Bool}{x2 x3:Int}{w:World}(H:∀ W,Cb 139 #[vU b,vI s] W (.tuple #[.agg #[.bool x0,vI 1,vU x2,vI x3],.nilIface])):Cb 243 #[vU b,vI s] w (.tuple #[.agg #[.bool x0,vI 1,vU x2,vI L],.nilIface]):=by
 have HG:=fun W=>yJ hz W
 clear hz
 go_enter Tryz.func243,Tryz.ntmps243
 go_wp2_with fail
 refine (H _).mono ?_
 rintro e w1 ⟨rfl,hb⟩
 have X1:Hid (FlB w1 w.heap.size _ _ _ _):=(FlB.new w (.bool false) (vI 0) (vU 0) (vI 0) 226).step hb
 have B1:Hid (Bl w w1):=(bz _ _).trans (hb.mono (by simp))
 clear hb
 go_wp2_with fail
 refine (HG _).mono ?_
 rintro e w2 ⟨rfl,hb⟩
 have X2:Hid (FlB w2 w.heap.size _ _ _ _):=(X1.out.al _).step hb
 have Y2:Hid (FlB w2 w1.heap.size _ _ _ _):=(FlB.new w1 _ _ _ _ _).step hb
 have B2:Hid (Bl w w2):=(B1.out.alloc B1.out.size _).trans (hb.mono (by have:=B1.out.size;simp;omega))
 have s12:w.heap.size<w1.heap.size:=X1.out.lt
 have X3:Hid (FlB (w2.alloc (.cells #[vI s,vI ((f:Int)+1),vI L] 304)) w.heap.size _ _ _ _):=X2.out.al _
 have Y3:Hid (FlB (w2.alloc (.cells #[vI s,vI ((f:Int)+1),vI L] 304)) w1.heap.size _ _ _ _):=Y2.out.al _
 have s23:w1.heap.size<w2.heap.size:=Y2.out.lt
 have B3:Hid (Bl w (w2.alloc (.cells #[vI s,vI ((f:Int)+1),vI L] 304))):=B2.out.alloc B2.out.size _
 clear hb X1 B1 X2 Y2 B2
 have Z3:Hid (GrB (w2.alloc (.cells #[vI s,vI ((f:Int)+1),vI L] 304)) w2.heap.size _ _ _):=GrB.new w2 _ _ _ _
 go_upto_region 8 with fail
 generalize w2.alloc (.cells #[vI s,vI ((f:Int)+1),vI L] 304)=v at *
 have n1:w.heap.size ≠ w1.heap.size:=by omega
 have n2:w1.heap.size ≠ w.heap.size:=by omega
 obtain ⟨_,a0,a1,a2,a3,f0,f1,f2,f3⟩:=X3.out
 obtain ⟨_,c0,c1,c2,c3,g0,g1,g2,g3⟩:=Y3.out
 obtain ⟨_,_,_,z2,_,_,_⟩:=Z3.out
 go_wp2
 exact bodyPost_ret (v:=.tuple #[.agg #[.bool x0,vI 1,vU x2,vI L],.nilIface]) (by simp [results,Tryz.results243,go_sem,World.cell?_setCell_same,World.cell?_setCell_other, *]) rfl ⟨rfl,(((((B3.out.setCell (by show w.heap.size<=w1.heap.size;omega) _).setCell (Nat.le_refl _) _).setCell (Nat.le_refl _) _).setCell (Nat.le_refl _) _).setCell (Nat.le_refl _) _)⟩
theorem aID {s:Int}{g n f T:Nat}{L:Int}(hz:Fz s g n f T L) {b:Nat}(hb:b<2 * g) (hm:mg g b<n) (w:World):Cb 243 #[vU (b:Int),vI s] w (.tuple #[.agg #[.bool (ng g b),vI (cl n (mg g b)),vU ((mt f (mg g b):Nat):Int),vI (xp f L (mg g b))],.nilIface]):=by
 have H:=fun W=>aMq hz hb W
 unfold uN uM uE at H
 rcases gX n (mg g b) with ⟨q,k⟩ | ⟨_,_,k⟩ | ⟨_,q,k⟩ | ⟨q,k⟩
 . rw [k] at H ⊢
   rw [if_neg (by decide),if_neg (by decide),if_neg (by decide)] at H
   have e1:mt f (mg g b)=0:=by rw [q];unfold mt;rw [if_pos (Nat.zero_div _)]
   have e2:xp f L (mg g b)=L:=by rw [q];unfold xp;rw [if_pos (Nat.zero_div _)]
   rw [e1,e2]
   exact aAR hz H
 . rw [k] at H ⊢
   rw [if_neg (by decide),if_pos rfl,if_pos rfl] at H
   exact aAQ H
 . omega
 . omega
def FrP (z:Nat) (e:Int) (t a b:Nat):Prop:=(t:Int)=max 0 (min (z:Int) (-e))/\(a:Int)=max 0 e/\(b:Int)=max 0 (-e - (t:Int))
theorem aDW (e:Int) (w:World):Calls Tryz.prog 244 #[vU 0,vI e] w fun x w'=>∃ v2,x=.returned (.tuple #[.slice none 0 0,v2])/\NatV w' v2 1/\Bl w w':=by
 have H:=fun W=>jR 1 (by unfold B;decide) W
 go_enter Tryz.func244,Tryz.ntmps244
 go_wp2_with fail
 refine (H _).mono ?_
 rintro x w1 ⟨v,rfl,n1,b1⟩
 have N1:Hid (NatV w1 v 1/\Bl w w1):=⟨n1,b1⟩
 clear n1 b1
 go_wp2
 go_ret2
 exact ⟨v,rfl,N1.out.1,N1.out.2⟩
theorem aDV {m:Nat}{e:Int}(hm:m<18446744073709551616) (m0:m ≠ 0) (h0:-1100<=e) (h1:e<=1000) (w:World) (hT:Tab w):Calls Tryz.prog 244 #[vU (m:Int),vI e] w fun x w'=>∃ (v1 v2:Value) (t a b:Nat),x=.returned (.tuple #[v1,v2])/\NatV w' v1 (m / 2 ^ t * 2 ^ a)/\NatV w' v2 (1 * 2 ^ b)/\FrP (Lib.ctz 64 m) e t a b/\Bl w w':=by
 have HZ:=bI (m:Int) ⟨by omega,by omega⟩ w hT
 have z1:Lib.ctz 64 m<64:=by
  obtain ⟨_,_,z1⟩:=gI m0 hm
  exact z1
 obtain ⟨z,hz⟩:∃ z,z=Lib.ctz 64 m:=⟨_,rfl⟩
 rw [<- hz] at z1
 have hz':cE (m:Int)=(z:Int):=by unfold cE;rw [Int.toNat_natCast,hz]
 rw [hz'] at HZ
 rw [<- hz]
 have n0:((m:Int) == 0)=false:=by simp;omega
 clear hz hz' m0 hT
 go_enter Tryz.func244,Tryz.ntmps244
 go_upto_region 3 with fail
 go_cut [6] (fun s wx=>wx=w/\∃ t:Nat,s=vI (t:Int)/\(t:Int)=max 0 (min (z:Int) (-e)))
 case first =>
  go_wp2_with fail
  refine HZ.mono ?_
  rintro x w1 ⟨rfl,rfl⟩
  clear HZ
  go_wp2
  all_goals go_meet
  all_goals first
   | (refine ⟨rfl,0,rfl,?_⟩;omega)
   | (refine ⟨rfl,z,rfl,?_⟩;omega)
   | (refine ⟨rfl,(-e).toNat,by rw [Int.toNat_of_nonneg (by omega)],?_⟩;omega)
 case rest =>
 clear HZ
 obtain ⟨hcw,t,rfl,ht⟩:=hcut
 subst wc
 have t63:t<=63:=by omega
 have HT:Hid ((t:Int)=max 0 (min (z:Int) (-e))):=ht
 clear ht
 have k1:m / 2 ^ t<18446744073709551616:=Nat.lt_of_le_of_lt (Nat.div_le_self _ _) hm
 have HO:=fun W=>jR (m / 2 ^ t) k1 W
 have es:(m:Int) / 2 ^ t=((m / 2 ^ t:Nat):Int):=by push_cast;rfl
 have HS:Hid ((m:Int) / 2 ^ t=((m / 2 ^ t:Nat):Int)):=es
 have HK:Hid (bl (m / 2 ^ t)<=64):=gA k1
 have H1:Hid (bl 1<=64):=(by decide:bl 1<=64)
 have HO1:∀ W,Calls Tryz.prog 189 #[vU 1] W fun e w'=>∃ v,e=.returned v/\NatV w' v 1/\Bl W w':=fun W=>jR 1 (by unfold B;decide) W
 clear k1 es
 go_upto_region 4 with fail
 go_cut [7,8] (fun u v wx=>v=.nilIface/\∃ a:Nat,NatV wx u (m / 2 ^ t * 2 ^ a)/\Bl w wx/\(a:Int)=max 0 (e))
 case first =>
  by_cases c:0<e
  . obtain ⟨a,ha⟩:∃ a:Nat,(a:Int)=e:=⟨(e).toNat,by omega⟩
    have h8:a<=8192:=by omega
    have e0:Hid (bl (m / 2 ^ t)+a<=64 * 128):=(by have:=HK.out;omega:bl (m / 2 ^ t)+a<=64 * 128)
    have HA:Hid ((a:Int)=e):=ha
    clear ha
    go_wp2_with fail
    all_goals first | (exfalso;omega) | skip
    rw [HS.out]
    refine (HO _).mono ?_
    rintro x wa ⟨va,rfl,na,ba⟩
    have T:=eW na a (eH e0.out) (by omega)
    have N1:Hid (Bl w wa):=ba
    clear na ba
    rw [HA.out] at T
    go_wp2_with fail
    all_goals first | (exfalso;omega) | skip
    refine T.mono ?_
    rintro x wb ⟨vb,rfl,nb,bb⟩
    have N2:Hid (NatV wb vb (m / 2 ^ t * 2 ^ a)/\Bl w wb):=⟨nb,N1.out.trans (bb.mono N1.out.size)⟩
    clear nb bb T N1
    go_wp2
    go_meet
    exact ⟨rfl,a,N2.out.1,N2.out.2,by have:=HA.out;omega⟩
  . have e0:Hid (bl (m / 2 ^ t)+0<=64 * 128):=(by have:=HK.out;omega:bl (m / 2 ^ t)+0<=64 * 128)
    go_wp2_with fail
    all_goals first | (exfalso;omega) | skip
    rw [HS.out]
    refine (HO _).mono ?_
    rintro x wa ⟨va,rfl,na,ba⟩
    have T:=eW na 0 (eH e0.out) (by omega)
    have N1:Hid (Bl w wa):=ba
    clear na ba
    rw [show ((0:Nat):Int)=0 from rfl] at T
    go_wp2_with fail
    all_goals first | (exfalso;omega) | skip
    refine T.mono ?_
    rintro x wb ⟨vb,rfl,nb,bb⟩
    have N2:Hid (NatV wb vb (m / 2 ^ t * 2 ^ 0)/\Bl w wb):=⟨nb,N1.out.trans (bb.mono N1.out.size)⟩
    clear nb bb T N1
    go_wp2
    go_meet
    exact ⟨rfl,0,N2.out.1,N2.out.2,by omega⟩
 case rest =>
 obtain ⟨rfl,a,na,ba,ha⟩:=hcut
 have N3:Hid (NatV wc u7 (m / 2 ^ t * 2 ^ a)/\Bl w wc/\(a:Int)=max 0 e):=⟨na,ba,ha⟩
 clear na ba ha HO HS
 go_upto_region 5 with fail
 go_cut [9,10] (fun u v wx=>v=.nilIface/\∃ b:Nat,NatV wx u (1 * 2 ^ b)/\Bl w wx/\NatV wx u7 (m / 2 ^ t * 2 ^ a)/\(b:Int)=max 0 (-e - (t:Int)))
 case first =>
  by_cases c:0 < -e - (t:Int)
  . obtain ⟨b,hb⟩:∃ b:Nat,(b:Int) = -e - (t:Int):=⟨(-e - (t:Int)).toNat,by omega⟩
    have h8:b<=8192:=by omega
    have e0:Hid (bl (1)+b<=64 * 128):=(by have:=H1.out;omega:bl (1)+b<=64 * 128)
    have HA:Hid ((b:Int) = -e - (t:Int)):=hb
    clear hb
    go_wp2_with fail
    all_goals first | (exfalso;omega) | skip
    skip
    refine (HO1 _).mono ?_
    rintro x wa ⟨va,rfl,na,ba⟩
    have T:=eW na b (eH e0.out) (by omega)
    have N1:Hid (Bl wc wa):=ba
    clear na ba
    rw [HA.out] at T
    go_wp2_with fail
    all_goals first | (exfalso;omega) | skip
    refine T.mono ?_
    rintro x wb ⟨vb,rfl,nb,bb⟩
    have N2:Hid (NatV wb vb (1 * 2 ^ b)/\Bl wc wb):=⟨nb,N1.out.trans (bb.mono N1.out.size)⟩
    clear nb bb T N1
    go_wp2
    go_meet
    exact ⟨rfl,b,N2.out.1,N3.out.2.1.trans (N2.out.2.mono N3.out.2.1.size),N3.out.1.below N2.out.2,by have:=HA.out;omega⟩
  . have e0:Hid (bl (1)+0<=64 * 128):=(by have:=H1.out;omega:bl (1)+0<=64 * 128)
    go_wp2_with fail
    all_goals first | (exfalso;omega) | skip
    skip
    refine (HO1 _).mono ?_
    rintro x wa ⟨va,rfl,na,ba⟩
    have T:=eW na 0 (eH e0.out) (by omega)
    have N1:Hid (Bl wc wa):=ba
    clear na ba
    rw [show ((0:Nat):Int)=0 from rfl] at T
    go_wp2_with fail
    all_goals first | (exfalso;omega) | skip
    refine T.mono ?_
    rintro x wb ⟨vb,rfl,nb,bb⟩
    have N2:Hid (NatV wb vb (1 * 2 ^ 0)/\Bl wc wb):=⟨nb,N1.out.trans (bb.mono N1.out.size)⟩
    clear nb bb T N1
    go_wp2
    go_meet
    exact ⟨rfl,0,N2.out.1,N3.out.2.1.trans (N2.out.2.mono N3.out.2.1.size),N3.out.1.below N2.out.2,by omega⟩
 case rest =>
 obtain ⟨rfl,b,nb,bb,nb2,hb⟩:=hcut
 have N4:Hid (NatV wc u7 (m / 2 ^ t * 2 ^ a)/\NatV wc u9 (1 * 2 ^ b)/\FrP z e t a b/\Bl w wc):=⟨nb2,nb,⟨HT.out,N3.out.2.2,hb⟩,bb⟩
 clear nb bb nb2 hb N3
 go_wp2
 go_ret2
 exact ⟨u7,u9,t,a,b,rfl,N4.out.1,N4.out.2.1,N4.out.2.2.1,N4.out.2.2.2⟩
theorem aKO {m j t a b:Nat}{e:Int}{z:Nat}(hm:m=2 ^ z * (2 * j+1)) (h:FrP z e t a b):Frc (m / 2 ^ t * 2 ^ a) (1 * 2 ^ b) m e:=by
 obtain ⟨h1,h2,h3⟩:=h
 rw [Nat.one_mul]
 by_cases c:0<=e
 . obtain rfl:t=0:=by omega
   obtain rfl:b=0:=by omega
   have ea:e=(a:Int):=by omega
   subst ea
   refine ⟨⟨0,Int.le_refl _,by omega,?_⟩,0,rfl,.inr rfl⟩
   unfold ev
   simp
 . obtain ⟨p,rfl⟩:∃ p:Nat,e = -(p:Int):=⟨(-e).toNat,by omega⟩
   obtain rfl:a=0:=by omega
   have hb:p=t+b:=by omega
   have tz:t<=z:=by omega
   have dv:m / 2 ^ t=2 ^ (z - t) * (2 * j+1):=by
    rw [hm,show 2 ^ z=2 ^ t * 2 ^ (z - t) from by rw [<- Nat.pow_add];congr 1;omega,Nat.mul_assoc,Nat.mul_div_cancel_left _ (Nat.two_pow_pos t)]
   refine ⟨⟨-(p:Int),by omega,Int.le_refl _,?_⟩,b,rfl,?_⟩
   . unfold ev
     rw [show (0 - -(p:Int)).toNat=p from by omega,show (-(p:Int) - -(p:Int)).toNat=0 from by omega,Nat.pow_zero,Nat.mul_one,Nat.mul_one,dv,hm,hb,Nat.pow_add,show 2 ^ z=2 ^ t * 2 ^ (z - t) from by rw [<- Nat.pow_add];congr 1;omega]
     generalize 2 ^ t=A
     generalize 2 ^ (z - t)=D
     generalize 2 * j+1=E
     generalize 2 ^ b=G
     rw [Nat.mul_comm (D * E) (A * G),Nat.mul_comm A G,Nat.mul_assoc,Nat.mul_assoc]
   . rw [Nat.pow_zero,Nat.mul_one,dv]
     by_cases q:t=z
     . left;subst q;rw [Nat.sub_self,Nat.pow_zero,Nat.one_mul];omega
     . right;omega
theorem aIJ {m:Nat}{e:Int}(hm:m<18446744073709551616) (h0:-1100<=e) (h1:e<=1000) (w:World) (hT:Tab w):Calls Tryz.prog 244 #[vU (m:Int),vI e] w fun x w'=>∃ (v1 v2:Value) (N D:Nat),x=.returned (.tuple #[v1,v2])/\NatV w' v1 N/\NatV w' v2 D/\Frc N D m e/\Bl w w':=by
 by_cases m0:m=0
 . subst m0
   refine (aDW e w).mono ?_
   rintro x w' ⟨v2,rfl,n2,b2⟩
   refine ⟨_,v2,0,1,rfl,natv_nil w',n2,⟨⟨min 0 e,by omega,by omega,?_⟩,0,rfl,.inr rfl⟩,b2⟩
   unfold ev
   simp
 . refine (aDV hm m0 h0 h1 w hT).mono ?_
   rintro x w' ⟨v1,v2,t,a,b,rfl,n1,n2,h,hb⟩
   obtain ⟨j,hj,_⟩:=gI m0 hm
   exact ⟨v1,v2,_,_,rfl,n1,n2,aKO hj h,hb⟩
theorem aD6 {s b:Int}{x1:Int}{x2:Nat}{x3:Int}{w:World}(hT:Tab w) (h2:x2<9223372036854775808) (h0:-1099<=x3) (h1:x3<=1000) (H:∀ W,Cb 243 #[vU b,vI s] W (.tuple #[.agg #[.bool false,vI x1,vU (x2:Int),vI x3],.nilIface])):Calls Tryz.prog 201 #[vU b,vI s] w fun e w'=>∃ (v1 v2:Value) (N D:Nat),e=.returned (.tuple #[v1,v2,.nilIface])/\NatV w' v1 N/\NatV w' v2 D/\Frc N D (2 * x2+1) (x3 - 1)/\Bl w w':=by
 have HR:=fun W hW=>aIJ (m:=2 * x2+1) (e:=x3 - 1) (by omega) (by omega) (by omega) W hW
 have e1:2 * (x2:Int)+1=((2 * x2+1:Nat):Int):=by omega
 rw [<- e1] at HR
 have HT:Hid (Tab w):=hT
 clear e1 hT
 go_enter Tryz.func201,Tryz.ntmps201
 go_wp2_with fail
 refine (H _).mono ?_
 rintro e w1 ⟨rfl,hb⟩
 have B2:Hid (Bl w (w1.alloc (.cells #[.bool false,vI x1,vU (x2:Int),vI x3] 226))):=hb.alloc hb.size _
 have X2:Hid (FlB (w1.alloc (.cells #[.bool false,vI x1,vU (x2:Int),vI x3] 226)) w1.heap.size _ _ _ _):=FlB.new w1 _ _ _ _ _
 have T:=HR _ (HT.out.next B2.out)
 clear hb H HR
 go_wp2_with fail
 refine T.mono ?_
 rintro e w3 ⟨v1,v2,N,D,rfl,n1,n2,hf,hb⟩
 have N3:Hid (NatV w3 v1 N/\NatV w3 v2 D/\Frc N D (2 * x2+1) (x3 - 1)/\Bl w w3):=⟨n1,n2,hf,B2.out.trans (hb.mono B2.out.size)⟩
 clear hb n1 n2 hf T B2 X2
 go_wp2
 exact bodyPost_ret (v:=.tuple #[v1,v2,.nilIface]) (by simp [results,Tryz.results201,go_sem]) rfl ⟨v1,v2,N,D,rfl,N3.out.1,N3.out.2.1,N3.out.2.2.1,N3.out.2.2.2⟩
theorem aHe {s:Int}{g n f T:Nat}{L:Int}(hz:Fz s g n f T L) {m:Nat}(hm:m<n):mt f m<9007199254740992 /\ -1074<=xp f L m/\xp f L m<=971:=by
 rcases hz with ⟨_,_,rfl,rfl,_,rfl⟩ | ⟨_,_,rfl,rfl,_,rfl⟩
 . rw [aMa,aMw]
   split <;> omega
 . rw [aMb,aMx]
   split <;> omega
theorem aIP {s:Int}{g n f T:Nat}{L:Int}(hz:Fz s g n f T L) {b:Nat}(hb:b<g) (hm:b<n) (w:World) (hT:Tab w):Calls Tryz.prog 201 #[vU (b:Int),vI s] w fun e w'=>∃ (v1 v2:Value) (N D:Nat),e=.returned (.tuple #[v1,v2,.nilIface])/\NatV w' v1 N/\NatV w' v2 D/\Frc N D (hM f b) (hX f L b)/\Bl w w':=by
 obtain ⟨p1,p2,p3⟩:=aHe hz hm
 have e1:mg g b=b:=Nat.mod_eq_of_lt hb
 have e2:ng g b=false:=by unfold ng;rw [decide_eq_false_iff_not];omega
 have H:=fun W=>aID hz (b:=b) (by omega) (by rw [e1];exact hm) W
 rw [e1,e2] at H
 exact aD6 hT (by omega) (by omega) (by omega) H
theorem aHf (w:World):Cb 110 #[vI 32] w (.tuple #[.agg #[vI 32,vI 24,vI (-149)],.bool true]):=by
 go_enter Tryz.func110,Tryz.ntmps110
 go_wp2
 exact bodyPost_ret (v:=.tuple #[.agg #[vI 32,vI 24,vI (-149)],.bool true]) (by simp [results,Tryz.results110,go_sem]) rfl ⟨rfl,bz _ _⟩
theorem aHg (w:World):Cb 110 #[vI 64] w (.tuple #[.agg #[vI 64,vI 53,vI (-1074)],.bool true]):=by
 go_enter Tryz.func110,Tryz.ntmps110
 go_wp2
 exact bodyPost_ret (v:=.tuple #[.agg #[vI 64,vI 53,vI (-1074)],.bool true]) (by simp [results,Tryz.results110,go_sem]) rfl ⟨rfl,bz _ _⟩
theorem aJe {s:Int}{g n f T:Nat}{L:Int}(h:Fz s g n f T L) (w:World):Cb 110 #[vI s] w (.tuple #[.agg #[vI s,vI ((f:Int)+1),vI L],.bool true]):=by
 rcases h with ⟨rfl,rfl,rfl,rfl,rfl,rfl⟩ | ⟨rfl,rfl,rfl,rfl,rfl,rfl⟩
 . exact aHf w
 . exact aHg w
theorem aES {m D:Nat}(t:Int) (hD:64<D) (w:World):Cs 154 #[vU (m:Int),vI (D:Int),vI t] w (vU 0):=by
 have p2:(64:Int)<(D:Int):=by omega
 go_enter Tryz.func154,Tryz.ntmps154
 go_wp2
 go_ret
 exact ⟨rfl,rfl⟩
theorem aCx {m D:Nat}(hm:m<18446744073709551616) (hD:D<=64) (hD0:D ≠ 0) {t:Int}(ht:t = -1 \/ t=0 \/ t=1) (w:World):Cb 154 #[vU (m:Int),vI (D:Int),vI t] w (vU ((drp m D t:Nat):Int)):=by
 have p2:¬ (64:Int)<(D:Int):=by omega
 have p3:¬ (D:Int)<0:=by omega
 have p4:¬ (D:Int) - 1<0:=by omega
 obtain ⟨Z,hZ⟩:∃ Z,Z=drp m D t:=⟨_,rfl⟩
 rw [<- hZ]
 have HZ:Hid (Z=drp m D t):=hZ
 clear hZ
 go_enter Tryz.func154,Tryz.ntmps154
 go_wp2
 go_quiet (fail)
 have hp:2 ^ (D - 1)<18446744073709551616:=Nat.lt_of_le_of_lt (Nat.pow_le_pow_right (by omega) (show D - 1<=63 by omega)) (by decide)
 have e1:(m:Int) / 2 ^ D=((m / 2 ^ D:Nat):Int):=by push_cast;rfl
 have e2:(2:Int) ^ (D - 1)=((2 ^ (D - 1):Nat):Int):=by push_cast;rfl
 have e3:((m / 2 ^ D:Nat):Int) * 2 ^ D=((m / 2 ^ D * 2 ^ D:Nat):Int):=by push_cast;rfl
 have e4:m / 2 ^ D * 2 ^ D+m % 2 ^ D=m:=by rw [Nat.mul_comm];exact Nat.div_add_mod m (2 ^ D)
 have hk:m / 2 ^ D<9223372036854775808:=by
  rw [Nat.div_lt_iff_lt_mul (Nat.two_pow_pos D),show D=D - 1+1 from by omega,Nat.pow_succ]
  have:=Nat.two_pow_pos (D - 1)
  generalize 2 ^ (D - 1)=z at *
  omega
 have hZ:=HZ.out
 clear HZ
 unfold drp at hZ
 rw [if_neg (show ¬ 64<D by omega)] at hZ
 rw [e1,e2,e3]
 generalize m / 2 ^ D * 2 ^ D=P at *
 have w1:IntKind.u64.wrap (P:Int)=(P:Int):=IntWalk.u64_in _ ⟨by omega,by omega⟩
 have w2:IntKind.u64.wrap ((m:Int) - (P:Int))=((m % 2 ^ D:Nat):Int):=by
  rw [show (m:Int) - (P:Int)=((m % 2 ^ D:Nat):Int) from by omega]
  exact IntWalk.u64_in _ ⟨by omega,by omega⟩
 have w3:IntKind.u64.wrap ((2 ^ (D - 1):Nat):Int)=((2 ^ (D - 1):Nat):Int):=by
  generalize 2 ^ (D - 1)=z at *
  exact IntWalk.u64_in _ ⟨by omega,by omega⟩
 rw [w1,w2,w3]
 clear w1 w2 w3 e1 e2 e3 e4 p2 p3 p4 hD hD0
 generalize m % 2 ^ D=R at *
 generalize m / 2 ^ D=k at *
 generalize 2 ^ (D - 1)=H at *
 have q:k % 2=0 \/ k % 2=1:=by omega
 have fin:Bl w (w.drewN nq):=below_drewN (Below.refl _ _) nq
 have HZ:Hid _:=hZ
 clear hZ
 rcases ht with rfl | rfl | rfl
 all_goals
  go_wp2
  all_goals go_ret
  all_goals simp only [beq_iff_eq,beq_eq_false_iff_ne,ne_eq,true_and] at *
  all_goals have hZ:=HZ.out
  all_goals split at hZ
  all_goals first
   | (refine ⟨congrArg (fun z:Int=>Ending.returned (vU z)) (show (k:Int)+1=(Z:Int) from ?_),fin⟩;omega)
   | (exfalso;omega)
   | (refine ⟨congrArg (fun z:Int=>Ending.returned (vU z)) (show (k:Int)=(Z:Int) from ?_),fin⟩;omega)
theorem aER {m D:Nat}(hm:m<18446744073709551616) (hD0:D ≠ 0) {t:Int}(ht:t = -1 \/ t=0 \/ t=1) (w:World):Cb 154 #[vU (m:Int),vI (D:Int),vI t] w (vU ((drp m D t:Nat):Int)):=by
 by_cases h1:D<=64
 . exact aCx hm h1 hD0 ht w
 . have e:drp m D t=0:=by unfold drp;rw [if_pos (by omega)]
   rw [e]
   exact (aES t (by omega) w).mono fun e w' q=>⟨q.1,by rw [q.2];exact Below.refl _ _⟩
def pkA (f T:Nat) (L:Int) (m:Nat) (p:Int):Nat:=if m=0 then 0 else match pk f (T:Int) L m p with | some b=>b | none=>T * 2 ^ f
theorem aEZ       {s : Int} {g n f T : Nat} {L : Int} (hz : Fz s g n f T L) {m : Nat} {p : Int} (hm : m < 18446744073709551616) (hp0 : -9223372036854775808 ≤ p) (a b : Int) (w : World) (hT : Tab w) : Calls Tryz.prog 153 #[.agg #[.int .i64 s, .int .i64 a, .int .i64 b], .int .u64 (m : Int), .int .i64 p] w fun e w' => e = .returned (.int .u64 ((pkA f T L m p : Nat) : Int)) ∧ Below w.heap.size w w' := by
  have B0 : Hid (Below w.heap.size w (w.alloc (.cells #[.int .i64 s, .int .i64 a, .int .i64 b] 187))) := (Below.refl _ _).alloc (Nat.le_refl _) _
  have G0 : Hid (GrB (w.alloc (.cells #[.int .i64 s, .int .i64 a, .int .i64 b] 187)) w.heap.size _ _ _) := GrB.new w _ _ _ _
  by_cases m0 : m = 0
  · subst m0
    have e : pkA f T L 0 p = 0 := by unfold pkA; rw [if_pos rfl]
    rw [e]
    go_enter Tryz.func153, Tryz.ntmps153
    go_wp2
    go_ret
    exact ⟨rfl, B0.out⟩
  · have q0 : ((m : Int) == 0) = false := by simp; omega
    have HP := fun W hW => rA     (p := p) hz false hm m0 hp0 W hW
    have HI := fun W => nT    hz false W
    have HT : Hid (Tab w) := hT
    cases hk : pk f (T : Int) L m p with
    | some y =>
      have e : pkA f T L m p = y := by unfold pkA; rw [if_neg m0, hk]
      rw [e]
      simp only [hk, show sgd g false y = y from rfl] at HP
      clear hk hT
      go_enter Tryz.func153, Tryz.ntmps153
      go_wp2_with fail
      refine (HP _ (HT.out.below B0.out HT.out.pos)).mono ?_
      rintro e w1 ⟨rfl, hb⟩
      have B1 : Hid (Below w.heap.size w w1) := B0.out.trans (hb.mono B0.out.size)
      clear hb
      go_wp2
      go_ret
      exact ⟨rfl, B1.out⟩
    | none =>
      have e : pkA f T L m p = T * 2 ^ f := by unfold pkA; rw [if_neg m0, hk]
      rw [e]
      simp only [show sgd g false (T * 2 ^ f) = T * 2 ^ f from rfl] at HI
      simp only [hk] at HP
      generalize T * 2 ^ f = y at *
      clear hk hT
      go_enter Tryz.func153, Tryz.ntmps153
      go_wp2_with fail
      refine (HP _ (HT.out.below B0.out HT.out.pos)).mono ?_
      rintro e w1 ⟨rfl, hb⟩
      have B1 : Hid (Below w.heap.size w w1) := B0.out.trans (hb.mono B0.out.size)
      have G1 : Hid (GrB w1 w.heap.size _ _ _) := G0.out.step hb
      clear hb B0 G0
      obtain ⟨_, a0, a1, a2, _, _, _⟩ := G1.out
      go_wp2_with fail
      refine (HI _).mono ?_
      rintro e w2 ⟨rfl, hb⟩
      have B2 : Hid (Below w.heap.size w w2) := B1.out.trans (hb.mono B1.out.size)
      clear hb
      go_wp2
      go_ret
      exact ⟨rfl, B2.out⟩
structure But (b:Nat) (w w':World):Prop where
 os:w'.os=w.os
 tape:w'.tape=w.tape
 output:w'.output=w.output
 size:w.heap.size<=w'.heap.size
 block:∀ k,k<w.heap.size -> k ≠ b -> w'.heap[k]?=w.heap[k]?
theorem But.refl (b:Nat) (w:World):But b w w:=⟨rfl,rfl,rfl,Nat.le_refl _,fun _ _ _=>rfl⟩
theorem But.trans {b:Nat}{u v w:World}(h:But b u v) (k:But b v w):But b u w :=
 ⟨k.os.trans h.os,k.tape.trans h.tape,k.output.trans h.output,Nat.le_trans h.size k.size,fun i hi hn=>(k.block i (Nat.lt_of_lt_of_le hi h.size) hn).trans (h.block i hi hn)⟩
theorem But.set (b:Nat) (w:World) (o:Nat) (v:Value):But b w (w.setCell ⟨b,o,none⟩ v) :=
 ⟨rfl,rfl,rfl,by simp [World.setCell],fun k _ hn=>Below.heap_setCell _ _ _ _ hn⟩
theorem But.drewN (b:Nat) (w:World) (k:Nat):But b w (w.drewN k):=⟨rfl,rfl,rfl,Nat.le_refl _,fun _ _ _=>rfl⟩
structure MS (W:World) (b:Nat) (l p e t s:Int):Prop where
 lt:b<W.heap.size
 c0:W.cell? ⟨b,0,none⟩=some (vI l)
 c1:W.cell? ⟨b,1,none⟩=some (vI p)
 c2:W.cell? ⟨b,2,none⟩=some (vI e)
 c3:W.cell? ⟨b,3,none⟩=some (vI t)
 c4:W.cell? ⟨b,4,none⟩=some (vI s)
 fr:∀ o,W.frozen? ⟨b,o,none⟩=false
 up:∀ o,5<=o -> W.cell? ⟨b,o,none⟩=none
theorem MS.step {W W':World}{b:Nat}{l p e t s:Int}(h:MS W b l p e t s) (hb:Bl W W'):MS W' b l p e t s:=by
 have k:∀ o,W'.cell? ⟨b,o,none⟩=W.cell? ⟨b,o,none⟩:=fun o=>hb.cell (p:=⟨b,o,none⟩) h.lt
 exact ⟨Nat.lt_of_lt_of_le h.lt hb.size,(k 0).trans h.c0,(k 1).trans h.c1,(k 2).trans h.c2,(k 3).trans h.c3,(k 4).trans h.c4,fun o=>(hb.frozen (p:=⟨b,o,none⟩) h.lt).trans (h.fr o),fun o ho=>(k o).trans (h.up o ho)⟩
theorem MS.same {W:World}{b o:Nat}{v x:Value}(h:W.cell? ⟨b,o,none⟩=some x):(W.setCell ⟨b,o,none⟩ v).cell? ⟨b,o,none⟩=some v:=by
 exact World.cell?_setCell_same W ⟨b,o,none⟩ v (by rw [h])
theorem MS.oth {W:World}{b o q:Nat}(v:Value) (n:q ≠ o):(W.setCell ⟨b,o,none⟩ v).cell? ⟨b,q,none⟩=W.cell? ⟨b,q,none⟩ :=
 World.cell?_setCell_other W ⟨b,o,none⟩ ⟨b,q,none⟩ v (by intro z;injection z with _ z _;omega)
theorem MS.set2 {W:World}{b:Nat}{l p e t s:Int}(h:MS W b l p e t s) (x:Int):MS (W.setCell ⟨b,2,none⟩ (vI x)) b l p x t s :=
 ⟨by rw [World.size_setCell];exact h.lt,(MS.oth _ (by omega)).trans h.c0,(MS.oth _ (by omega)).trans h.c1,MS.same h.c2,(MS.oth _ (by omega)).trans h.c3,(MS.oth _ (by omega)).trans h.c4,fun o=>by rw [World.frozen?_setCell];exact h.fr o,fun o ho=>(MS.oth _ (by omega)).trans (h.up o ho)⟩
theorem MS.set3 {W:World}{b:Nat}{l p e t s:Int}(h:MS W b l p e t s) (x:Int):MS (W.setCell ⟨b,3,none⟩ (vI x)) b l p e x s :=
 ⟨by rw [World.size_setCell];exact h.lt,(MS.oth _ (by omega)).trans h.c0,(MS.oth _ (by omega)).trans h.c1,(MS.oth _ (by omega)).trans h.c2,MS.same h.c3,(MS.oth _ (by omega)).trans h.c4,fun o=>by rw [World.frozen?_setCell];exact h.fr o,fun o ho=>(MS.oth _ (by omega)).trans (h.up o ho)⟩
theorem MS.set4 {W:World}{b:Nat}{l p e t s:Int}(h:MS W b l p e t s) (x:Int):MS (W.setCell ⟨b,4,none⟩ (vI x)) b l p e t x :=
 ⟨by rw [World.size_setCell];exact h.lt,(MS.oth _ (by omega)).trans h.c0,(MS.oth _ (by omega)).trans h.c1,(MS.oth _ (by omega)).trans h.c2,(MS.oth _ (by omega)).trans h.c3,MS.same h.c4,fun o=>by rw [World.frozen?_setCell];exact h.fr o,fun o ho=>(MS.oth _ (by omega)).trans (h.up o ho)⟩
def mV (b:Nat):Value:=.pointer (some ⟨b,0,none⟩)
def tV (l p e t s:Int):Value:=.agg #[vI l,vI p,vI e,vI t,vI s]
theorem aHF {b:Nat}{l p e t s:Int}(w:World) (h:MS w b l p e t s) :
 Cb 157 #[mV b] w (tV l p e t s):=by
 unfold mV tV
 obtain ⟨lt,c0,c1,c2,c3,c4,fr⟩:=h
 have k:∀ ob o,(w.alloc ob).cell? ⟨b,o,none⟩=w.cell? ⟨b,o,none⟩:=fun ob o=>World.cell?_alloc_lt w ob ⟨b,o,none⟩ lt
 go_enter Tryz.func157,Tryz.ntmps157
 go_wp2
 refine bodyPost_ret (v:=.agg #[vI l,vI p,vI e,vI t,vI s]) (by simp [results,Tryz.results157,go_sem, *]) rfl ⟨rfl,?_⟩
 exact bz _ _
theorem aI0 {b:Nat}{l p e t s:Int}(w:World) (h:MS w b l p e t s) :
 Cb 116 #[mV b] w (vI l):=by
 have T:=aHF w h
 clear h
 unfold mV tV at *
 have hf:∀ W:World,(Instr.field 237 (.agg #[vI l,vI p,vI e,vI t,vI s]) 0).run Tryz.prog W=.ok (vI l) W:=fun _=>by kernel_rfl
 go_enter Tryz.func116,Tryz.ntmps116
 go_wp2_with fail
 refine T.mono ?_
 rintro x w1 ⟨rfl,hb⟩
 go_wp2
 go_ret
 exact ⟨rfl,hb⟩
def bQ (c n:Int):Int:=if n<1 then c else if 9223372036854775807 - n<c then 9223372036854775807 else c+n
theorem iF {c n:Int}(c0:0<=c) (n1:n<=9223372036854775807) (w:World) :
 Cs 109 #[vI c,vI n] w (vI (bQ c n)):=by
 unfold bQ
 by_cases h1:n<1
 . rw [if_pos h1]
   clear n1 c0
   go_enter Tryz.func109,Tryz.ntmps109
   go_wp2
   go_ret
   exact ⟨rfl,rfl⟩
 . rw [if_neg h1]
   obtain ⟨d,hd⟩:∃ d,d=9223372036854775807 - n:=⟨_,rfl⟩
   have w1:IntKind.i64.wrap (9223372036854775807 - n)=d:=by
    unfold IntKind.wrap
    simp [IntKind.bits,IntKind.signed]
    omega
   rw [<- hd]
   by_cases h2:d<c
   . rw [if_pos h2]
     clear n1 c0 hd
     go_enter Tryz.func109,Tryz.ntmps109
     go_wp2
     go_ret
     exact ⟨rfl,rfl⟩
   . rw [if_neg h2]
     have w2:IntKind.i64.wrap (c+n)=c+n:=by
      unfold IntKind.wrap
      simp [IntKind.bits,IntKind.signed]
      omega
     clear n1 c0 hd
     go_enter Tryz.func109,Tryz.ntmps109
     go_wp2
     go_ret
     exact ⟨rfl,rfl⟩
def wM (b:Nat) (k:Int):Value:=if k=1 then .pointer (some ⟨b,2,none⟩) else if k=2 then .pointer (some ⟨b,3,none⟩) else if k=3 then .pointer (some ⟨b,4,none⟩) else .pointer none
theorem aBM (b:Nat) (k:Int) (w:World) :
 Cs 108 #[mV b,vI k] w (wM b k):=by
 unfold mV wM
 by_cases h1:k=1
 . subst h1
   go_enter Tryz.func108,Tryz.ntmps108
   go_wp2
   go_ret
   exact ⟨rfl,rfl⟩
 . rw [if_neg h1]
   by_cases h2:k=2
   . subst h2
     go_enter Tryz.func108,Tryz.ntmps108
     go_wp2
     go_ret
     exact ⟨rfl,rfl⟩
   . rw [if_neg h2]
     by_cases h3:k=3
     . subst h3
       go_enter Tryz.func108,Tryz.ntmps108
       go_wp2
       go_ret
       exact ⟨rfl,rfl⟩
     . rw [if_neg h3]
       by_cases h4:k<1
       . clear h1 h2 h3
         go_enter Tryz.func108,Tryz.ntmps108
         go_wp2
         go_ret
         exact ⟨rfl,rfl⟩
       . have h5:3<k:=by omega
         clear h1 h2 h3
         go_enter Tryz.func108,Tryz.ntmps108
         go_wp2
         go_ret
         exact ⟨rfl,rfl⟩
theorem aFh (k:Int) (w:World) :
 Cs 108 #[.pointer none,vI k] w (.pointer none):=by
 by_cases h4:k<1
 . go_enter Tryz.func108,Tryz.ntmps108
   go_wp2
   go_ret
   exact ⟨rfl,rfl⟩
 . by_cases h5:3<k
   . go_enter Tryz.func108,Tryz.ntmps108
     go_wp2
     go_ret
     exact ⟨rfl,rfl⟩
   . go_enter Tryz.func108,Tryz.ntmps108
     go_wp2
     go_ret
     exact ⟨rfl,rfl⟩
theorem aId {b:Nat}{l p e t s:Int}(k:Int) (e0:0<=e) (t0:0<=t) (s0:0<=s) (w:World) (h:MS w b l p e t s) :
 Calls Tryz.prog 79 #[mV b,vI k] w fun x w'=>x=.returned (.tuple #[])/\But b w w'/\MS w' b l p (if k=1 then bQ e 1 else e) (if k=2 then bQ t 1 else t) (if k=3 then bQ s 1 else s):=by
 have R:=fun W=>aBM b k W
 have M0:Hid (MS w b l p e t s):=h
 obtain ⟨lt,c0,c1,c2,c3,c4,fr⟩:=h
 unfold mV wM at *
 by_cases h1:k=1
 . subst h1
   rw [if_pos rfl] at R ⊢
   rw [if_neg (by decide),if_neg (by decide)]
   have M:=fun W=>iF e0 (show (1:Int)<=9223372036854775807 by decide) W
   generalize bQ e 1=y at *
   clear e0 t0 s0
   go_enter Tryz.func79,Tryz.ntmps79
   go_wp2_with fail
   refine (R _).mono ?_
   rintro x w1 ⟨rfl,rfl⟩
   go_wp2_with fail
   refine (M _).mono ?_
   rintro x w1 ⟨rfl,rfl⟩
   go_wp2
   exact bodyPost_end (v:=.tuple #[]) (results_none Tryz.results79 _ _ _) rfl ⟨rfl,But.set b _ 2 _,M0.out.set2 y⟩
 . rw [if_neg h1] at R ⊢
   by_cases h2:k=2
   . subst h2
     rw [if_pos rfl] at R ⊢
     rw [if_neg (by decide)]
     have M:=fun W=>iF t0 (show (1:Int)<=9223372036854775807 by decide) W
     generalize bQ t 1=y at *
     clear e0 t0 s0
     go_enter Tryz.func79,Tryz.ntmps79
     go_wp2_with fail
     refine (R _).mono ?_
     rintro x w1 ⟨rfl,rfl⟩
     go_wp2_with fail
     refine (M _).mono ?_
     rintro x w1 ⟨rfl,rfl⟩
     go_wp2
     exact bodyPost_end (v:=.tuple #[]) (results_none Tryz.results79 _ _ _) rfl ⟨rfl,But.set b _ 3 _,M0.out.set3 y⟩
   . rw [if_neg h2] at R ⊢
     by_cases h3:k=3
     . subst h3
       rw [if_pos rfl] at R ⊢
       have M:=fun W=>iF s0 (show (1:Int)<=9223372036854775807 by decide) W
       generalize bQ s 1=y at *
       clear e0 t0 s0
       go_enter Tryz.func79,Tryz.ntmps79
       go_wp2_with fail
       refine (R _).mono ?_
       rintro x w1 ⟨rfl,rfl⟩
       go_wp2_with fail
       refine (M _).mono ?_
       rintro x w1 ⟨rfl,rfl⟩
       go_wp2
       exact bodyPost_end (v:=.tuple #[]) (results_none Tryz.results79 _ _ _) rfl ⟨rfl,But.set b _ 4 _,M0.out.set4 y⟩
     . rw [if_neg h3] at R ⊢
       clear h1 h2 h3 e0 t0 s0
       go_enter Tryz.func79,Tryz.ntmps79
       go_wp2_with fail
       refine (R _).mono ?_
       rintro x w1 ⟨rfl,rfl⟩
       go_wp2
       exact bodyPost_end (v:=.tuple #[]) (results_none Tryz.results79 _ _ _) rfl ⟨rfl,But.refl _ _,M0.out⟩
theorem tD (k:Int) (w:World) :
 Cs 79 #[.pointer none,vI k] w (.tuple #[]):=by
 have R:=fun W=>aFh k W
 go_enter Tryz.func79,Tryz.ntmps79
 go_wp2_with fail
 refine (R _).mono ?_
 rintro x w1 ⟨rfl,rfl⟩
 go_wp2
 exact bodyPost_end (v:=.tuple #[]) (results_none Tryz.results79 _ _ _) rfl ⟨rfl,rfl⟩
theorem aCS (w:World) :
 Cb 157 #[.pointer none] w (tV 0 0 0 0 0):=by
 unfold tV
 go_enter Tryz.func157,Tryz.ntmps157
 go_wp2
 refine bodyPost_ret (v:=.agg #[vI 0,vI 0,vI 0,vI 0,vI 0]) (by simp [results,Tryz.results157,go_sem, *]) rfl ⟨rfl,?_⟩
 exact bz _ _
theorem aEt (w:World) :
 Cb 116 #[.pointer none] w (vI 0):=by
 have T:=aCS w
 unfold tV at *
 have hf:∀ W:World,(Instr.field 237 (.agg #[vI 0,vI 0,vI 0,vI 0,vI 0]) 0).run Tryz.prog W=.ok (vI 0) W:=fun _=>by kernel_rfl
 go_enter Tryz.func116,Tryz.ntmps116
 go_wp2_with fail
 refine T.mono ?_
 rintro x w1 ⟨rfl,hb⟩
 go_wp2
 go_ret
 exact ⟨rfl,hb⟩
theorem MS.set0 {W:World}{b:Nat}{l p e t s:Int}(h:MS W b l p e t s) (x:Int):MS (W.setCell ⟨b,0,none⟩ (vI x)) b x p e t s :=
 ⟨by rw [World.size_setCell];exact h.lt,MS.same h.c0,(MS.oth _ (by omega)).trans h.c1,(MS.oth _ (by omega)).trans h.c2,(MS.oth _ (by omega)).trans h.c3,(MS.oth _ (by omega)).trans h.c4,fun o=>by rw [World.frozen?_setCell];exact h.fr o,fun o ho=>(MS.oth _ (by omega)).trans (h.up o ho)⟩
theorem MS.set1 {W:World}{b:Nat}{l p e t s:Int}(h:MS W b l p e t s) (x:Int):MS (W.setCell ⟨b,1,none⟩ (vI x)) b l x e t s :=
 ⟨by rw [World.size_setCell];exact h.lt,(MS.oth _ (by omega)).trans h.c0,MS.same h.c1,(MS.oth _ (by omega)).trans h.c2,(MS.oth _ (by omega)).trans h.c3,(MS.oth _ (by omega)).trans h.c4,fun o=>by rw [World.frozen?_setCell];exact h.fr o,fun o ho=>(MS.oth _ (by omega)).trans (h.up o ho)⟩
def mx3 (p n l:Int):Int:=max p (max n l)
theorem aHl {b:Nat}{l p e t s:Int}(n:Int) (w:World) (h:MS w b l p e t s) :
 Calls Tryz.prog 267 #[mV b,vI n] w fun x w'=>x=.returned (.tuple #[])/\But b w w'/\MS w' b l (mx3 p n l) e t s:=by
 have M0:Hid (MS w b l p e t s):=h
 obtain ⟨y,hy⟩:∃ y,y=mx3 p n l:=⟨_,rfl⟩
 rw [<- hy]
 have HY:Hid (y=max p (max n l)):=hy
 clear hy
 unfold mV
 obtain ⟨lt,c0,c1,c2,c3,c4,fr⟩:=h
 go_enter Tryz.func267,Tryz.ntmps267
 go_wp2
 go_region
 all_goals
  go_wp2
 all_goals
  refine bodyPost_end (v:=.tuple #[]) (results_none Tryz.results267 _ _ _) rfl ⟨rfl,?_⟩
  refine ⟨(But.set b w 1 _).trans (But.drewN b _ 1),?_⟩
  have q:=(M0.out.set1 y).step (Below.refl _ _).drew
  have z:=HY.out
  first
   | (rw [show y=l by omega] at q ⊢;exact q)
   | (rw [show y=n by omega] at q ⊢;exact q)
   | (rw [show y=p by omega] at q ⊢;exact q)
theorem aJQ {b:Nat}{l p e t s:Int}{n:Int}(l0:0<=l) (n1:n<=9223372036854775807) (w:World) (h:MS w b l p e t s) :
 Calls Tryz.prog 242 #[mV b,vI n] w fun x w'=>x=.returned (.tuple #[])/\But b w w'/\MS w' b (bQ l n) (mx3 p 0 (bQ l n)) e t s:=by
 have M0:Hid (MS w b l p e t s):=h
 have M:=fun W=>iF l0 n1 W
 have R:=fun W y (h:MS W b y p e t s)=>aHl 0 W h
 generalize bQ l n=y at *
 clear l0 n1
 unfold mV at *
 obtain ⟨lt,c0,c1,c2,c3,c4,fr⟩:=h
 go_enter Tryz.func242,Tryz.ntmps242
 go_wp2_with fail
 refine (M _).mono ?_
 rintro x w1 ⟨rfl,rfl⟩
 go_wp2_with fail
 refine (R _ _ (M0.out.set0 y)).mono ?_
 rintro x w2 ⟨rfl,b2,m2⟩
 go_wp2
 exact bodyPost_end (v:=.tuple #[]) (results_none Tryz.results242 _ _ _) rfl ⟨rfl,(But.set b _ 0 _).trans b2,m2⟩
def wH (c n:Int):Int:=if n<1 then c else max (c - n) 0
theorem aIN {b:Nat}{l p e t s:Int}{n:Int}(l0:0<=l) (l1:l<=9223372036854775807) (n1:n<=9223372036854775807) (w:World) (h:MS w b l p e t s) :
 Calls Tryz.prog 156 #[mV b,vI n] w fun x w'=>x=.returned (.tuple #[])/\But b w w'/\MS w' b (wH l n) p e t s:=by
 have M0:Hid (MS w b l p e t s):=h
 unfold mV at *
 unfold wH
 obtain ⟨lt,c0,c1,c2,c3,c4,fr⟩:=h
 by_cases h1:n<1
 . rw [if_pos h1]
   clear l0 l1 n1
   go_enter Tryz.func156,Tryz.ntmps156
   go_wp2
   first
    | exact bodyPost_ret (v:=.tuple #[]) (results_none Tryz.results156 _ _ _) rfl ⟨rfl,But.refl _ _,M0.out⟩
    | exact bodyPost_end (v:=.tuple #[]) (results_none Tryz.results156 _ _ _) rfl ⟨rfl,But.refl _ _,M0.out⟩
 . rw [if_neg h1]
   obtain ⟨d,hd⟩:∃ d,d=l - n:=⟨_,rfl⟩
   have w1:IntKind.i64.wrap (l - n)=d:=by
    unfold IntKind.wrap
    simp [IntKind.bits,IntKind.signed]
    omega
   rw [<- hd]
   obtain ⟨y,hy⟩:∃ y,y=max d 0:=⟨_,rfl⟩
   rw [<- hy]
   have HY:Hid (y=max d 0):=hy
   clear hy l0 l1 n1 hd
   go_enter Tryz.func156,Tryz.ntmps156
   go_wp2
   all_goals
    refine bodyPost_end (v:=.tuple #[]) (results_none Tryz.results156 _ _ _) rfl ⟨rfl,?_⟩
    refine ⟨But.set b w 0 _,?_⟩
    have q:=M0.out.set0 y
    have z:=HY.out
    first
     | (rw [z] at q ⊢;exact q)
     | (rw [show y=d by omega] at q ⊢;exact q)
     | (rw [show y=0 by omega] at q ⊢;exact q)
theorem aFx (n:Int) (w:World) :
 Cs 242 #[.pointer none,vI n] w (.tuple #[]):=by
 go_enter Tryz.func242,Tryz.ntmps242
 go_wp2
 exact bodyPost_ret (v:=.tuple #[]) (results_none Tryz.results242 _ _ _) rfl ⟨rfl,rfl⟩
theorem aDX (n:Int) (w:World) :
 Cs 156 #[.pointer none,vI n] w (.tuple #[]):=by
 go_enter Tryz.func156,Tryz.ntmps156
 go_wp2
 exact bodyPost_ret (v:=.tuple #[]) (results_none Tryz.results156 _ _ _) rfl ⟨rfl,rfl⟩
theorem aLa (w:World):Cb 73 #[.agg #[vU 2147483648,vU 2139095040,vI 23,vI (-149)]] w (vU 2143289344):=by
 have H:=fun W=>tW W
 go_enter Tryz.func73,Tryz.ntmps73
 go_wp2
 go_region_held3 (fun w'=>w'.cell? ⟨w.heap.size,0,none⟩=some (vU 2147483648)/\w'.cell? ⟨w.heap.size,1,none⟩=some (vU 2139095040)/\w'.cell? ⟨w.heap.size,2,none⟩=some (vI 23)/\w'.cell? ⟨w.heap.size,3,none⟩=some (vI (-149))) (simp [*,go_sem])
  (first | (go_at_call 101;refine (H _).mono ?_;rintro x w2 ⟨rfl,hb2⟩;have T:Hid (ShB w w2 _ _ _ _):=(ShB.start w (vU 2147483648) (vU 2139095040) (vI 23) (vI (-149)) 78).drew.step hb2;clear hb2;obtain ⟨_,_,a0,a1,a2,a3⟩:=T.out))
 go_wp2
 go_ret
 exact ⟨rfl,T.out.bel⟩
theorem aLb (w:World):Cb 73 #[.agg #[vU 9223372036854775808,vU 9218868437227405312,vI 52,vI (-1074)]] w (vU 9221120237041090560):=by
 have H:=fun W=>tX W
 go_enter Tryz.func73,Tryz.ntmps73
 go_wp2
 go_region_held3 (fun w'=>w'.cell? ⟨w.heap.size,0,none⟩=some (vU 9223372036854775808)/\w'.cell? ⟨w.heap.size,1,none⟩=some (vU 9218868437227405312)/\w'.cell? ⟨w.heap.size,2,none⟩=some (vI 52)/\w'.cell? ⟨w.heap.size,3,none⟩=some (vI (-1074))) (simp [*,go_sem])
  (first | (go_at_call 101;refine (H _).mono ?_;rintro x w2 ⟨rfl,hb2⟩;have T:Hid (ShB w w2 _ _ _ _):=(ShB.start w (vU 9223372036854775808) (vU 9218868437227405312) (vI 52) (vI (-1074)) 78).drew.step hb2;clear hb2;obtain ⟨_,_,a0,a1,a2,a3⟩:=T.out))
 go_wp2
 go_ret
 exact ⟨rfl,T.out.bel⟩
theorem aIl  (w:World):Cb 46 #[vI 32] w (.tuple #[vU 2143289344,.nilIface]):=by
 have H:=fun W=>cJ W
 have HS:=fun W=>aLa W
 go_enter Tryz.func46,Tryz.ntmps46
 go_wp2_with fail
 refine (H _).mono ?_
 rintro e w1 ⟨rfl,hb⟩
 have B:Hid (Bl w w1):=hb
 have l:=hb.size
 clear hb
 go_wp2_with fail
 refine (HS _).mono ?_
 rintro e w2 ⟨rfl,hb⟩
 have B2:Hid (Bl w w2):=(B.out.alloc l _).trans (hb.mono (by simp;omega))
 clear hb
 go_wp2
 go_ret2
 exact ⟨rfl,B2.out⟩
theorem aIm  (w:World):Cb 46 #[vI 64] w (.tuple #[vU 9221120237041090560,.nilIface]):=by
 have H:=fun W=>cK W
 have HS:=fun W=>aLb W
 go_enter Tryz.func46,Tryz.ntmps46
 go_wp2_with fail
 refine (H _).mono ?_
 rintro e w1 ⟨rfl,hb⟩
 have B:Hid (Bl w w1):=hb
 have l:=hb.size
 clear hb
 go_wp2_with fail
 refine (HS _).mono ?_
 rintro e w2 ⟨rfl,hb⟩
 have B2:Hid (Bl w w2):=(B.out.alloc l _).trans (hb.mono (by simp;omega))
 clear hb
 go_wp2
 go_ret2
 exact ⟨rfl,B2.out⟩
def iZ (x y:Int):Int:=if x<y then -1 else if y<x then 1 else 0
def rk (g b:Nat):Int:=if ng g b then -(mg g b:Int) else (mg g b:Int)
theorem yR (x:Int) (w:World):Cs 66 #[vI x] w (.bool false):=by
 go_enter Tryz.func66,Tryz.ntmps66
 go_wp2
 go_ret
 simp
theorem aDu (x y:Int) (w:World):Cs 43 #[vI x,vI y] w (vI (iZ x y)):=by
 have H1:=fun W=>yR x W
 have H2:=fun W=>yR y W
 have Q:Hid (iZ x y=if x<y then -1 else if y<x then 1 else 0):=rfl
 rcases Int.lt_trichotomy x y with h | h | h
 . rw [Q.out,if_pos h]
   go_enter Tryz.func43,Tryz.ntmps43
   go_wp2_with fail
   refine (H1 _).mono ?_
   rintro e w ⟨rfl,rfl⟩
   go_wp2_with fail
   refine (H2 _).mono ?_
   rintro e w ⟨rfl,rfl⟩
   go_wp2
   go_ret
   exact ⟨rfl,rfl⟩
 . subst h
   rw [Q.out,if_neg (Int.lt_irrefl x),if_neg (Int.lt_irrefl x)]
   clear Q
   go_enter Tryz.func43,Tryz.ntmps43
   go_wp2_with fail
   refine (H1 _).mono ?_
   rintro e w ⟨rfl,rfl⟩
   go_wp2_with fail
   refine (H2 _).mono ?_
   rintro e w ⟨rfl,rfl⟩
   go_wp2
   go_ret
   exact ⟨rfl,rfl⟩
 . have h':¬ x<y:=by omega
   rw [Q.out,if_neg h',if_pos h]
   go_enter Tryz.func43,Tryz.ntmps43
   go_wp2_with fail
   refine (H1 _).mono ?_
   rintro e w ⟨rfl,rfl⟩
   go_wp2_with fail
   refine (H2 _).mono ?_
   rintro e w ⟨rfl,rfl⟩
   go_wp2
   go_ret
   exact ⟨rfl,rfl⟩
theorem aBI {b:Nat}(h:b<4294967296) (w:World):Cb 44 #[.agg #[vU 2147483648,vU 2139095040,vI 23,vI (-149)],vU (b:Int)] w (vI (rk 2147483648 b)):=by
 have HM:=fun W=>iD h W
 have HN:=fun W=>oQ h W
 have hl:=nZ (g:=2147483648) (by decide) b
 unfold rk
 generalize mg 2147483648 b=x at *
 generalize ng 2147483648 b=c at *
 clear h
 cases c
 all_goals
  simp only [if_true,if_false,Bool.false_eq_true]
  go_enter Tryz.func44,Tryz.ntmps44
  go_wp2_with fail
  refine (HM _).mono ?_
  rintro e w1 ⟨rfl,hb⟩
  have T:Hid (ShB w w1 _ _ _ _):=(ShB.start w (vU 2147483648) (vU 2139095040) (vI 23) (vI (-149)) 78).step hb
  clear hb
  obtain ⟨_,_,a0,a1,a2,a3⟩:=T.out
  go_wp2_with fail
  refine (HN _).mono ?_
  rintro e w2 ⟨rfl,hb⟩
  have T2:Hid (ShB w w2 _ _ _ _):=T.out.step hb
  clear hb
  go_wp2
  go_ret
  exact ⟨rfl,T2.out.bel⟩
theorem aBJ {b:Nat}(h:b<18446744073709551616) (w:World):Cb 44 #[.agg #[vU 9223372036854775808,vU 9218868437227405312,vI 52,vI (-1074)],vU (b:Int)] w (vI (rk 9223372036854775808 b)):=by
 have HM:=fun W=>iE h W
 have HN:=fun W=>oR h W
 have hl:=nZ (g:=9223372036854775808) (by decide) b
 unfold rk
 generalize mg 9223372036854775808 b=x at *
 generalize ng 9223372036854775808 b=c at *
 clear h
 cases c
 all_goals
  simp only [if_true,if_false,Bool.false_eq_true]
  go_enter Tryz.func44,Tryz.ntmps44
  go_wp2_with fail
  refine (HM _).mono ?_
  rintro e w1 ⟨rfl,hb⟩
  have T:Hid (ShB w w1 _ _ _ _):=(ShB.start w (vU 9223372036854775808) (vU 9218868437227405312) (vI 52) (vI (-1074)) 78).step hb
  clear hb
  obtain ⟨_,_,a0,a1,a2,a3⟩:=T.out
  go_wp2_with fail
  refine (HN _).mono ?_
  rintro e w2 ⟨rfl,hb⟩
  have T2:Hid (ShB w w2 _ _ _ _):=T.out.step hb
  clear hb
  go_wp2
  go_ret
  exact ⟨rfl,T2.out.bel⟩
theorem qA {a b:Nat}(ha:a<4294967296) (hb:b<4294967296) (ka:cl 2139095040 (mg 2147483648 a)=4) (w:World):Cb 25 #[vU (a:Int),vU (b:Int),vI 32] w (.tuple #[vI 2,.nilIface]):=by
 have CA:=fun W=>cX ha W
 have CB:=fun W=>cX hb W
 rw [ka] at CA
 by_cases q:a<b
 . have H:=fun W=>aX hb W
   clear ha hb ka
   go_enter Tryz.func25,Tryz.ntmps25
   go_wp2_with fail
   refine (H _).mono ?_
   rintro e w1 ⟨rfl,hb⟩
   have B:Hid (Bl w w1):=hb
   have l:=hb.size
   clear hb
   go_wp2_with fail
   refine (CA _).mono ?_
   rintro e w2 ⟨rfl,hb⟩
   have T2:Hid (FlB w2 w1.heap.size _ _ _ _):=(FlB.new w1 _ _ _ _ _).step hb
   have B2:Hid (Bl w w2):=(B.out.alloc l _).trans (hb.mono (by simp;omega))
   clear hb
   obtain ⟨l2,b0,b1,b2,b3,_,_,_,_⟩:=T2.out
   go_wp2
   go_ret2
   exact ⟨rfl,B2.out⟩
 . have H:=fun W=>aX ha W
   clear ha hb ka
   go_enter Tryz.func25,Tryz.ntmps25
   go_wp2_with fail
   refine (H _).mono ?_
   rintro e w1 ⟨rfl,hb⟩
   have B:Hid (Bl w w1):=hb
   have l:=hb.size
   clear hb
   go_wp2_with fail
   refine (CA _).mono ?_
   rintro e w2 ⟨rfl,hb⟩
   have T2:Hid (FlB w2 w1.heap.size _ _ _ _):=(FlB.new w1 _ _ _ _ _).step hb
   have B2:Hid (Bl w w2):=(B.out.alloc l _).trans (hb.mono (by simp;omega))
   clear hb
   obtain ⟨l2,b0,b1,b2,b3,_,_,_,_⟩:=T2.out
   go_wp2
   go_ret2
   exact ⟨rfl,B2.out⟩
theorem qC {a b:Nat}(ha:a<4294967296) (hb:b<4294967296) (ka:(cl 2139095040 (mg 2147483648 a) == 4)=false) (kb:cl 2139095040 (mg 2147483648 b)=4) (w:World):Cb 25 #[vU (a:Int),vU (b:Int),vI 32] w (.tuple #[vI 2,.nilIface]):=by
 have CA:=fun W=>cX ha W
 have CB:=fun W=>cX hb W
 rw [kb] at CB
 generalize cl 2139095040 (mg 2147483648 a)=C1 at *
 by_cases q:a<b
 . have H:=fun W=>aX hb W
   clear ha hb kb
   go_enter Tryz.func25,Tryz.ntmps25
   go_wp2_with fail
   refine (H _).mono ?_
   rintro e w1 ⟨rfl,hb⟩
   have B:Hid (Bl w w1):=hb
   have l:=hb.size
   clear hb
   go_wp2_with fail
   refine (CA _).mono ?_
   rintro e w2 ⟨rfl,hb⟩
   have T2:Hid (FlB w2 w1.heap.size _ _ _ _):=(FlB.new w1 _ _ _ _ _).step hb
   have B2:Hid (Bl w w2):=(B.out.alloc l _).trans (hb.mono (by simp;omega))
   clear hb
   obtain ⟨l2,b0,b1,b2,b3,_,_,_,_⟩:=T2.out
   go_wp2_with fail
   refine (CB _).mono ?_
   rintro e w3 ⟨rfl,hb⟩
   have T3:Hid (FlB w3 w1.heap.size _ _ _ _):=T2.out.step hb
   have B3:Hid (Bl w w3):=B2.out.trans (hb.mono (by omega))
   clear hb
   obtain ⟨l3,c0,c1,c2,c3,_,_,_,_⟩:=T3.out
   go_wp2
   go_ret2
   exact ⟨rfl,B3.out⟩
 . have H:=fun W=>aX ha W
   clear ha hb kb
   go_enter Tryz.func25,Tryz.ntmps25
   go_wp2_with fail
   refine (H _).mono ?_
   rintro e w1 ⟨rfl,hb⟩
   have B:Hid (Bl w w1):=hb
   have l:=hb.size
   clear hb
   go_wp2_with fail
   refine (CA _).mono ?_
   rintro e w2 ⟨rfl,hb⟩
   have T2:Hid (FlB w2 w1.heap.size _ _ _ _):=(FlB.new w1 _ _ _ _ _).step hb
   have B2:Hid (Bl w w2):=(B.out.alloc l _).trans (hb.mono (by simp;omega))
   clear hb
   obtain ⟨l2,b0,b1,b2,b3,_,_,_,_⟩:=T2.out
   go_wp2_with fail
   refine (CB _).mono ?_
   rintro e w3 ⟨rfl,hb⟩
   have T3:Hid (FlB w3 w1.heap.size _ _ _ _):=T2.out.step hb
   have B3:Hid (Bl w w3):=B2.out.trans (hb.mono (by omega))
   clear hb
   obtain ⟨l3,c0,c1,c2,c3,_,_,_,_⟩:=T3.out
   go_wp2
   go_ret2
   exact ⟨rfl,B3.out⟩
theorem vJ {a b:Nat}(ha:a<4294967296) (hb:b<4294967296) (ka:(cl 2139095040 (mg 2147483648 a) == 4)=false) (kb:(cl 2139095040 (mg 2147483648 b) == 4)=false) (w:World):Cb 25 #[vU (a:Int),vU (b:Int),vI 32] w (.tuple #[vI (iZ (rk 2147483648 a) (rk 2147483648 b)),.nilIface]):=by
 have CA:=fun W=>cX ha W
 have CB:=fun W=>cX hb W
 have RA:=fun W=>aBI ha W
 have RB:=fun W=>aBI hb W
 have RC:=fun W=>aDu (rk 2147483648 a) (rk 2147483648 b) W
 generalize iZ (rk 2147483648 a) (rk 2147483648 b)=RR at *
 generalize rk 2147483648 a=ra at *
 generalize rk 2147483648 b=rb at *
 generalize cl 2139095040 (mg 2147483648 a)=C1 at *
 generalize cl 2139095040 (mg 2147483648 b)=C2 at *
 by_cases q:a<b
 . have H:=fun W=>aX hb W
   clear ha hb
   go_enter Tryz.func25,Tryz.ntmps25
   go_wp2_with fail
   refine (H _).mono ?_
   rintro e w1 ⟨rfl,hb⟩
   have B:Hid (Bl w w1):=hb
   have l:=hb.size
   clear hb
   go_wp2_with fail
   refine (CA _).mono ?_
   rintro e w2 ⟨rfl,hb⟩
   have T2:Hid (FlB w2 w1.heap.size _ _ _ _):=(FlB.new w1 _ _ _ _ _).step hb
   have B2:Hid (Bl w w2):=(B.out.alloc l _).trans (hb.mono (by simp;omega))
   clear hb
   obtain ⟨l2,b0,b1,b2,b3,_,_,_,_⟩:=T2.out
   go_wp2_with fail
   refine (CB _).mono ?_
   rintro e w3 ⟨rfl,hb⟩
   have T3:Hid (FlB w3 w1.heap.size _ _ _ _):=T2.out.step hb
   have B3:Hid (Bl w w3):=B2.out.trans (hb.mono (by omega))
   clear hb
   obtain ⟨l3,c0,c1,c2,c3,_,_,_,_⟩:=T3.out
   go_wp2
   go_region_held3 (fun w'=>w'.cell? ⟨w1.heap.size,0,none⟩=some (vU 2147483648)/\w'.cell? ⟨w1.heap.size,1,none⟩=some (vU 2139095040)/\w'.cell? ⟨w1.heap.size,2,none⟩=some (vI 23)/\w'.cell? ⟨w1.heap.size,3,none⟩=some (vI (-149))) (simp [*,go_sem])
    (first
     | (go_at_call_of 44 (vU (a:Int));refine (RA _).mono ?_;rintro x1 w4 ⟨rfl,hb⟩;have T4:Hid (FlB w4 w1.heap.size _ _ _ _):=T3.out.drew.step hb;have B4:Hid (Bl w w4):=B3.out.drew.trans (hb.mono (by simp;omega));clear hb;obtain ⟨l4,d0,d1,d2,d3,_,_,_,_⟩:=T4.out)
     | (go_at_call_of 44 (vU (b:Int));refine (RB _).mono ?_;rintro x1 w5 ⟨rfl,hb⟩;have T5:Hid (FlB w5 w1.heap.size _ _ _ _):=T4.out.step hb;have B5:Hid (Bl w w5):=B4.out.trans (hb.mono (by omega));clear hb;obtain ⟨l5,g0,g1,g2,g3,_,_,_,_⟩:=T5.out)
     | (go_at_call 43;refine (RC _).mono ?_;rintro x1 w6 ⟨rfl,hh⟩;subst hh))
   go_wp2
   go_ret2
   exact ⟨rfl,B5.out⟩
 . have H:=fun W=>aX ha W
   clear ha hb
   go_enter Tryz.func25,Tryz.ntmps25
   go_wp2_with fail
   refine (H _).mono ?_
   rintro e w1 ⟨rfl,hb⟩
   have B:Hid (Bl w w1):=hb
   have l:=hb.size
   clear hb
   go_wp2_with fail
   refine (CA _).mono ?_
   rintro e w2 ⟨rfl,hb⟩
   have T2:Hid (FlB w2 w1.heap.size _ _ _ _):=(FlB.new w1 _ _ _ _ _).step hb
   have B2:Hid (Bl w w2):=(B.out.alloc l _).trans (hb.mono (by simp;omega))
   clear hb
   obtain ⟨l2,b0,b1,b2,b3,_,_,_,_⟩:=T2.out
   go_wp2_with fail
   refine (CB _).mono ?_
   rintro e w3 ⟨rfl,hb⟩
   have T3:Hid (FlB w3 w1.heap.size _ _ _ _):=T2.out.step hb
   have B3:Hid (Bl w w3):=B2.out.trans (hb.mono (by omega))
   clear hb
   obtain ⟨l3,c0,c1,c2,c3,_,_,_,_⟩:=T3.out
   go_wp2
   go_region_held3 (fun w'=>w'.cell? ⟨w1.heap.size,0,none⟩=some (vU 2147483648)/\w'.cell? ⟨w1.heap.size,1,none⟩=some (vU 2139095040)/\w'.cell? ⟨w1.heap.size,2,none⟩=some (vI 23)/\w'.cell? ⟨w1.heap.size,3,none⟩=some (vI (-149))) (simp [*,go_sem])
    (first
     | (go_at_call_of 44 (vU (a:Int));refine (RA _).mono ?_;rintro x1 w4 ⟨rfl,hb⟩;have T4:Hid (FlB w4 w1.heap.size _ _ _ _):=T3.out.drew.step hb;have B4:Hid (Bl w w4):=B3.out.drew.trans (hb.mono (by simp;omega));clear hb;obtain ⟨l4,d0,d1,d2,d3,_,_,_,_⟩:=T4.out)
     | (go_at_call_of 44 (vU (b:Int));refine (RB _).mono ?_;rintro x1 w5 ⟨rfl,hb⟩;have T5:Hid (FlB w5 w1.heap.size _ _ _ _):=T4.out.step hb;have B5:Hid (Bl w w5):=B4.out.trans (hb.mono (by omega));clear hb;obtain ⟨l5,g0,g1,g2,g3,_,_,_,_⟩:=T5.out)
     | (go_at_call 43;refine (RC _).mono ?_;rintro x1 w6 ⟨rfl,hh⟩;subst hh))
   go_wp2
   go_ret2
   exact ⟨rfl,B5.out⟩
theorem qB {a b:Nat}(ha:a<18446744073709551616) (hb:b<18446744073709551616) (ka:cl 9218868437227405312 (mg 9223372036854775808 a)=4) (w:World):Cb 25 #[vU (a:Int),vU (b:Int),vI 64] w (.tuple #[vI 2,.nilIface]):=by
 have CA:=fun W=>cY ha W
 have CB:=fun W=>cY hb W
 rw [ka] at CA
 by_cases q:a<b
 . have H:=fun W=>aY hb W
   clear ha hb ka
   go_enter Tryz.func25,Tryz.ntmps25
   go_wp2_with fail
   refine (H _).mono ?_
   rintro e w1 ⟨rfl,hb⟩
   have B:Hid (Bl w w1):=hb
   have l:=hb.size
   clear hb
   go_wp2_with fail
   refine (CA _).mono ?_
   rintro e w2 ⟨rfl,hb⟩
   have T2:Hid (FlB w2 w1.heap.size _ _ _ _):=(FlB.new w1 _ _ _ _ _).step hb
   have B2:Hid (Bl w w2):=(B.out.alloc l _).trans (hb.mono (by simp;omega))
   clear hb
   obtain ⟨l2,b0,b1,b2,b3,_,_,_,_⟩:=T2.out
   go_wp2
   go_ret2
   exact ⟨rfl,B2.out⟩
 . have H:=fun W=>aY ha W
   clear ha hb ka
   go_enter Tryz.func25,Tryz.ntmps25
   go_wp2_with fail
   refine (H _).mono ?_
   rintro e w1 ⟨rfl,hb⟩
   have B:Hid (Bl w w1):=hb
   have l:=hb.size
   clear hb
   go_wp2_with fail
   refine (CA _).mono ?_
   rintro e w2 ⟨rfl,hb⟩
   have T2:Hid (FlB w2 w1.heap.size _ _ _ _):=(FlB.new w1 _ _ _ _ _).step hb
   have B2:Hid (Bl w w2):=(B.out.alloc l _).trans (hb.mono (by simp;omega))
   clear hb
   obtain ⟨l2,b0,b1,b2,b3,_,_,_,_⟩:=T2.out
   go_wp2
   go_ret2
   exact ⟨rfl,B2.out⟩
theorem qD {a b:Nat}(ha:a<18446744073709551616) (hb:b<18446744073709551616) (ka:(cl 9218868437227405312 (mg 9223372036854775808 a) == 4)=false) (kb:cl 9218868437227405312 (mg 9223372036854775808 b)=4) (w:World):Cb 25 #[vU (a:Int),vU (b:Int),vI 64] w (.tuple #[vI 2,.nilIface]):=by
 have CA:=fun W=>cY ha W
 have CB:=fun W=>cY hb W
 rw [kb] at CB
 generalize cl 9218868437227405312 (mg 9223372036854775808 a)=C1 at *
 by_cases q:a<b
 . have H:=fun W=>aY hb W
   clear ha hb kb
   go_enter Tryz.func25,Tryz.ntmps25
   go_wp2_with fail
   refine (H _).mono ?_
   rintro e w1 ⟨rfl,hb⟩
   have B:Hid (Bl w w1):=hb
   have l:=hb.size
   clear hb
   go_wp2_with fail
   refine (CA _).mono ?_
   rintro e w2 ⟨rfl,hb⟩
   have T2:Hid (FlB w2 w1.heap.size _ _ _ _):=(FlB.new w1 _ _ _ _ _).step hb
   have B2:Hid (Bl w w2):=(B.out.alloc l _).trans (hb.mono (by simp;omega))
   clear hb
   obtain ⟨l2,b0,b1,b2,b3,_,_,_,_⟩:=T2.out
   go_wp2_with fail
   refine (CB _).mono ?_
   rintro e w3 ⟨rfl,hb⟩
   have T3:Hid (FlB w3 w1.heap.size _ _ _ _):=T2.out.step hb
   have B3:Hid (Bl w w3):=B2.out.trans (hb.mono (by omega))
   clear hb
   obtain ⟨l3,c0,c1,c2,c3,_,_,_,_⟩:=T3.out
   go_wp2
   go_ret2
   exact ⟨rfl,B3.out⟩
 . have H:=fun W=>aY ha W
   clear ha hb kb
   go_enter Tryz.func25,Tryz.ntmps25
   go_wp2_with fail
   refine (H _).mono ?_
   rintro e w1 ⟨rfl,hb⟩
   have B:Hid (Bl w w1):=hb
   have l:=hb.size
   clear hb
   go_wp2_with fail
   refine (CA _).mono ?_
   rintro e w2 ⟨rfl,hb⟩
   have T2:Hid (FlB w2 w1.heap.size _ _ _ _):=(FlB.new w1 _ _ _ _ _).step hb
   have B2:Hid (Bl w w2):=(B.out.alloc l _).trans (hb.mono (by simp;omega))
   clear hb
   obtain ⟨l2,b0,b1,b2,b3,_,_,_,_⟩:=T2.out
   go_wp2_with fail
   refine (CB _).mono ?_
   rintro e w3 ⟨rfl,hb⟩
   have T3:Hid (FlB w3 w1.heap.size _ _ _ _):=T2.out.step hb
   have B3:Hid (Bl w w3):=B2.out.trans (hb.mono (by omega))
   clear hb
   obtain ⟨l3,c0,c1,c2,c3,_,_,_,_⟩:=T3.out
   go_wp2
   go_ret2
   exact ⟨rfl,B3.out⟩
theorem vK {a b:Nat}(ha:a<18446744073709551616) (hb:b<18446744073709551616) (ka:(cl 9218868437227405312 (mg 9223372036854775808 a) == 4)=false) (kb:(cl 9218868437227405312 (mg 9223372036854775808 b) == 4)=false) (w:World):Cb 25 #[vU (a:Int),vU (b:Int),vI 64] w (.tuple #[vI (iZ (rk 9223372036854775808 a) (rk 9223372036854775808 b)),.nilIface]):=by
 have CA:=fun W=>cY ha W
 have CB:=fun W=>cY hb W
 have RA:=fun W=>aBJ ha W
 have RB:=fun W=>aBJ hb W
 have RC:=fun W=>aDu (rk 9223372036854775808 a) (rk 9223372036854775808 b) W
 generalize iZ (rk 9223372036854775808 a) (rk 9223372036854775808 b)=RR at *
 generalize rk 9223372036854775808 a=ra at *
 generalize rk 9223372036854775808 b=rb at *
 generalize cl 9218868437227405312 (mg 9223372036854775808 a)=C1 at *
 generalize cl 9218868437227405312 (mg 9223372036854775808 b)=C2 at *
 by_cases q:a<b
 . have H:=fun W=>aY hb W
   clear ha hb
   go_enter Tryz.func25,Tryz.ntmps25
   go_wp2_with fail
   refine (H _).mono ?_
   rintro e w1 ⟨rfl,hb⟩
   have B:Hid (Bl w w1):=hb
   have l:=hb.size
   clear hb
   go_wp2_with fail
   refine (CA _).mono ?_
   rintro e w2 ⟨rfl,hb⟩
   have T2:Hid (FlB w2 w1.heap.size _ _ _ _):=(FlB.new w1 _ _ _ _ _).step hb
   have B2:Hid (Bl w w2):=(B.out.alloc l _).trans (hb.mono (by simp;omega))
   clear hb
   obtain ⟨l2,b0,b1,b2,b3,_,_,_,_⟩:=T2.out
   go_wp2_with fail
   refine (CB _).mono ?_
   rintro e w3 ⟨rfl,hb⟩
   have T3:Hid (FlB w3 w1.heap.size _ _ _ _):=T2.out.step hb
   have B3:Hid (Bl w w3):=B2.out.trans (hb.mono (by omega))
   clear hb
   obtain ⟨l3,c0,c1,c2,c3,_,_,_,_⟩:=T3.out
   go_wp2
   go_region_held3 (fun w'=>w'.cell? ⟨w1.heap.size,0,none⟩=some (vU 9223372036854775808)/\w'.cell? ⟨w1.heap.size,1,none⟩=some (vU 9218868437227405312)/\w'.cell? ⟨w1.heap.size,2,none⟩=some (vI 52)/\w'.cell? ⟨w1.heap.size,3,none⟩=some (vI (-1074))) (simp [*,go_sem])
    (first
     | (go_at_call_of 44 (vU (a:Int));refine (RA _).mono ?_;rintro x1 w4 ⟨rfl,hb⟩;have T4:Hid (FlB w4 w1.heap.size _ _ _ _):=T3.out.drew.step hb;have B4:Hid (Bl w w4):=B3.out.drew.trans (hb.mono (by simp;omega));clear hb;obtain ⟨l4,d0,d1,d2,d3,_,_,_,_⟩:=T4.out)
     | (go_at_call_of 44 (vU (b:Int));refine (RB _).mono ?_;rintro x1 w5 ⟨rfl,hb⟩;have T5:Hid (FlB w5 w1.heap.size _ _ _ _):=T4.out.step hb;have B5:Hid (Bl w w5):=B4.out.trans (hb.mono (by omega));clear hb;obtain ⟨l5,g0,g1,g2,g3,_,_,_,_⟩:=T5.out)
     | (go_at_call 43;refine (RC _).mono ?_;rintro x1 w6 ⟨rfl,hh⟩;subst hh))
   go_wp2
   go_ret2
   exact ⟨rfl,B5.out⟩
 . have H:=fun W=>aY ha W
   clear ha hb
   go_enter Tryz.func25,Tryz.ntmps25
   go_wp2_with fail
   refine (H _).mono ?_
   rintro e w1 ⟨rfl,hb⟩
   have B:Hid (Bl w w1):=hb
   have l:=hb.size
   clear hb
   go_wp2_with fail
   refine (CA _).mono ?_
   rintro e w2 ⟨rfl,hb⟩
   have T2:Hid (FlB w2 w1.heap.size _ _ _ _):=(FlB.new w1 _ _ _ _ _).step hb
   have B2:Hid (Bl w w2):=(B.out.alloc l _).trans (hb.mono (by simp;omega))
   clear hb
   obtain ⟨l2,b0,b1,b2,b3,_,_,_,_⟩:=T2.out
   go_wp2_with fail
   refine (CB _).mono ?_
   rintro e w3 ⟨rfl,hb⟩
   have T3:Hid (FlB w3 w1.heap.size _ _ _ _):=T2.out.step hb
   have B3:Hid (Bl w w3):=B2.out.trans (hb.mono (by omega))
   clear hb
   obtain ⟨l3,c0,c1,c2,c3,_,_,_,_⟩:=T3.out
   go_wp2
   go_region_held3 (fun w'=>w'.cell? ⟨w1.heap.size,0,none⟩=some (vU 9223372036854775808)/\w'.cell? ⟨w1.heap.size,1,none⟩=some (vU 9218868437227405312)/\w'.cell? ⟨w1.heap.size,2,none⟩=some (vI 52)/\w'.cell? ⟨w1.heap.size,3,none⟩=some (vI (-1074))) (simp [*,go_sem])
    (first
     | (go_at_call_of 44 (vU (a:Int));refine (RA _).mono ?_;rintro x1 w4 ⟨rfl,hb⟩;have T4:Hid (FlB w4 w1.heap.size _ _ _ _):=T3.out.drew.step hb;have B4:Hid (Bl w w4):=B3.out.drew.trans (hb.mono (by simp;omega));clear hb;obtain ⟨l4,d0,d1,d2,d3,_,_,_,_⟩:=T4.out)
     | (go_at_call_of 44 (vU (b:Int));refine (RB _).mono ?_;rintro x1 w5 ⟨rfl,hb⟩;have T5:Hid (FlB w5 w1.heap.size _ _ _ _):=T4.out.step hb;have B5:Hid (Bl w w5):=B4.out.trans (hb.mono (by omega));clear hb;obtain ⟨l5,g0,g1,g2,g3,_,_,_,_⟩:=T5.out)
     | (go_at_call 43;refine (RC _).mono ?_;rintro x1 w6 ⟨rfl,hh⟩;subst hh))
   go_wp2
   go_ret2
   exact ⟨rfl,B5.out⟩
end Go.Proofs.YtejgpbhionadbaaGreatDoor
