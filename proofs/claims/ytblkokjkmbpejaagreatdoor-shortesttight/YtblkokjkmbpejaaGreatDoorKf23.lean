/-
  Holds: VBtA.
-/
import Derived.Laws.BitsAllLaws
import Derived.Test.YtblkokjkmbpejaaGreatDoorRows
import Derived.WalkKit
import Derived.BigQuiet
import Derived.Deep.RegionHeld3
import Derived.Test.YtblkokjkmbpejaaGreatDoorKf11
set_option maxRecDepth 100000
set_option maxHeartbeats 4000000
namespace Go.Proofs.YtblkokjkmbpejaaGreatDoor
open Go.RowKit
structure ShB (w W:World) (a b c d:Value):Prop where
 sz:w.heap.size+1<=W.heap.size
 bel:Bl w W
 a0:W.cell? ⟨w.heap.size,0,none⟩=some a
 a1:W.cell? ⟨w.heap.size,1,none⟩=some b
 a2:W.cell? ⟨w.heap.size,2,none⟩=some c
 a3:W.cell? ⟨w.heap.size,3,none⟩=some d
theorem ShB.step {w W W':World}{a b c d:Value}(h:ShB w W a b c d) (hb:Bl W W'):ShB w W' a b c d:=by
 have z:=h.sz
 have k:∀ o,W'.cell? ⟨w.heap.size,o,none⟩=W.cell? ⟨w.heap.size,o,none⟩:=fun o=>hb.cell (p:=⟨w.heap.size,o,none⟩) (by show w.heap.size<W.heap.size;omega)
 exact ⟨Nat.le_trans z hb.size,h.bel.trans (hb.mono (by omega)),(k 0).trans h.a0,(k 1).trans h.a1,(k 2).trans h.a2,(k 3).trans h.a3⟩
theorem ShB.start (w:World) (a b c d:Value) (T:TypeId):ShB w (w.alloc (.cells #[a,b,c,d] T)) a b c d :=
 ⟨by simp,bz _ _,by simp,by simp,by simp,by simp⟩
theorem ShB.drew {w W:World}{a b c d:Value}(h:ShB w W a b c d):ShB w W.drew a b c d:=h.step (Below.refl _ _).drew
theorem uB (w:World):Cb 171 #[] w (.agg #[vU 2147483648,vU 2139095040,vI 23,vI (-149)]):=by
 go_enter Tryz.func171,Tryz.ntmps171
 go_wp2
 exact bodyPost_ret (v:=.agg #[vU 2147483648,vU 2139095040,vI 23,vI (-149)]) (by simp [results,Tryz.results171,go_sem]) rfl ⟨rfl,bz _ _⟩
theorem sZ (w:World):Cb 172 #[] w (.agg #[vU 9223372036854775808,vU 9218868437227405312,vI 52,vI (-1074)]):=by
 go_enter Tryz.func172,Tryz.ntmps172
 go_wp2
 exact bodyPost_ret (v:=.agg #[vU 9223372036854775808,vU 9218868437227405312,vI 52,vI (-1074)]) (by simp [results,Tryz.results172,go_sem]) rfl ⟨rfl,bz _ _⟩
theorem wD (w:World):Cb 184 #[.agg #[vU 2147483648,vU 2139095040,vI 23,vI (-149)]] w (vU 8388608):=by
 go_enter Tryz.func184,Tryz.ntmps184
 go_wp2
 go_ret
 exact ⟨rfl,bz _ _⟩
theorem pP {b:Nat}(h:b<4294967296) (w:World):Cb 167 #[.agg #[vU 2147483648,vU 2139095040,vI 23,vI (-149)],vU (b:Int)] w (.bool (ng 2147483648 b)):=by
 have hA:=pG b h
 cases q:ng 2147483648 b
 all_goals
  rw [q] at hA
  simp only [if_true,if_false,Bool.false_eq_true] at hA
  clear q h
  go_enter Tryz.func167,Tryz.ntmps167
  go_wp2
  go_ret
  exact ⟨rfl,bz _ _⟩
theorem iD {b:Nat}(h:b<4294967296) (w:World):Cb 170 #[.agg #[vU 2147483648,vU 2139095040,vI 23,vI (-149)],vU (b:Int)] w (vU ((mg 2147483648 b:Nat):Int)):=by
 have hA:=lZ b h
 clear h
 go_enter Tryz.func170,Tryz.ntmps170
 go_wp2
 go_ret
 exact ⟨rfl,bz _ _⟩
theorem mV {b:Nat}(h:b<4294967296) (w:World):Cb 168 #[.agg #[vU 2147483648,vU 2139095040,vI 23,vI (-149)],vU (b:Int)] w (vI (cl 2139095040 (mg 2147483648 b))):=by
 have HM:=fun W=>iD h W
 have hl:=iS (g:=2147483648) (by decide) b
 generalize mg 2147483648 b=x at *
 have C:=cA 2139095040 x
 have C2:(((x:Int) == 0)=true/\cl 2139095040 x=1) \/ (((x:Int) == 0)=false/\decide ((x:Int)<2139095040)=true/\cl 2139095040 x=2) \/ (((x:Int) == 0)=false/\decide ((x:Int)<2139095040)=false/\((x:Int) == 2139095040)=true/\cl 2139095040 x=3) \/ (((x:Int) == 0)=false/\decide ((x:Int)<2139095040)=false/\((x:Int) == 2139095040)=false/\cl 2139095040 x=4):=by
  rcases C with ⟨p,q⟩ | ⟨p0,p1,q⟩ | ⟨p0,p1,q⟩ | ⟨p1,q⟩
  . exact .inl ⟨by simp;omega,q⟩
  . exact .inr (.inl ⟨by simp;omega,by simp;omega,q⟩)
  . exact .inr (.inr (.inl ⟨by simp;omega,by simp;omega,by simp;omega,q⟩))
  . exact .inr (.inr (.inr ⟨by simp;omega,by simp;omega,by simp;omega,q⟩))
 clear C h hl
 generalize cl 2139095040 x=C at *
 rcases C2 with ⟨p0,rfl⟩ | ⟨p0,p1,rfl⟩ | ⟨p0,p1,p2,rfl⟩ | ⟨p0,p1,p2,rfl⟩
 all_goals
  go_enter Tryz.func168,Tryz.ntmps168
  go_wp2_with fail
  refine (HM _).mono ?_
  rintro e w1 ⟨rfl,hb⟩
  have T:Hid (ShB w w1 _ _ _ _):=(ShB.start w (vU 2147483648) (vU 2139095040) (vI 23) (vI (-149)) 185).step hb
  clear hb
  obtain ⟨_,_,a0,a1,a2,a3⟩:=T.out
  go_wp2
  go_ret
  exact ⟨rfl,T.out.bel⟩
theorem aBz {x:Nat}(h:x<2147483648) (w:World):Cb 169 #[.agg #[vU 2147483648,vU 2139095040,vI 23,vI (-149)],vU (x:Int)] w (.tuple #[vU ((mt 23 x:Nat):Int),vI (xp 23 (-149) x)]):=by
 have HH:=fun W=>wD W
 have hM:=fC (m:=x) (by omega)
 have lo:=Nat.mod_lt x (show 0<8388608 by decide)
 have hO:=mJ lo
 have E1:Hid (mt 23 x=if x / 8388608=0 then x else x % 8388608+8388608):=rfl
 have E2:Hid (xp 23 (-149) x=if x / 8388608=0 then (-149) else (-149)+((x / 8388608:Nat):Int) - 1):=rfl
 have E3:Hid (x / 8388608 * 8388608+x % 8388608=x):=Nat.div_add_mod' x 8388608
 have hq:x / 8388608<2048:=by omega
 have eq:(x:Int) / 8388608=((x / 8388608:Nat):Int):=rfl
 obtain ⟨r,hr⟩:∃ r,r=x % 8388608:=⟨_,rfl⟩
 obtain ⟨k,hk⟩:∃ k,k=x / 8388608:=⟨_,rfl⟩
 rw [<- hr] at hM hO lo E1 E3
 rw [<- hk] at hq eq E1 E2 E3
 have HR:Hid (r=x % 8388608):=hr
 have HK:Hid (k=x / 8388608):=hk
 clear hr hk
 by_cases z:k=0
 . have e0:((k:Int) == 0)=true:=by simp;omega
   have F:Hid (mt 23 x=r/\xp 23 (-149) x=(-149)):=⟨by rw [E1.out,if_pos z];have:=E3.out;rw [z] at this;omega,by rw [E2.out,if_pos z]⟩
   rw [F.out.1,F.out.2]
   clear z
   go_enter Tryz.func169,Tryz.ntmps169
   go_wp2_with fail
   refine (HH _).mono ?_
   rintro e w1 ⟨rfl,hb⟩
   have T:Hid (ShB w w1 _ _ _ _):=(ShB.start w (vU 2147483648) (vU 2139095040) (vI 23) (vI (-149)) 185).step hb
   clear hb
   obtain ⟨_,_,a0,a1,a2,a3⟩:=T.out
   go_wp2
   go_region_held3 (fun w'=>w'.cell? ⟨w.heap.size,0,none⟩=some (vU 2147483648)/\w'.cell? ⟨w.heap.size,1,none⟩=some (vU 2139095040)/\w'.cell? ⟨w.heap.size,2,none⟩=some (vI 23)/\w'.cell? ⟨w.heap.size,3,none⟩=some (vI (-149))) (simp [*,go_sem]) (fail)
   go_wp2
   go_ret2
   exact ⟨rfl,T.out.bel.drew⟩
 . have e0:((k:Int) == 0)=false:=by simp;omega
   have F:Hid (mt 23 x=r+8388608/\xp 23 (-149) x=(-149)+(k:Int) - 1):=⟨by rw [E1.out,if_neg z],by rw [E2.out,if_neg z]⟩
   rw [F.out.1,F.out.2]
   have i1:IntKind.i64.wrap ((-149)+(k:Int))=(-149)+(k:Int):=IntWalk.i64_in _ ⟨by omega,by omega⟩
   have i2:IntKind.i64.wrap ((-149)+(k:Int) - 1)=(-149)+(k:Int) - 1:=IntWalk.i64_in _ ⟨by omega,by omega⟩
   go_enter Tryz.func169,Tryz.ntmps169
   go_wp2_with fail
   refine (HH _).mono ?_
   rintro e w1 ⟨rfl,hb⟩
   have T:Hid (ShB w w1 _ _ _ _):=(ShB.start w (vU 2147483648) (vU 2139095040) (vI 23) (vI (-149)) 185).step hb
   clear hb
   obtain ⟨_,_,a0,a1,a2,a3⟩:=T.out
   go_wp2
   go_region_held3 (fun w'=>w'.cell? ⟨w.heap.size,0,none⟩=some (vU 2147483648)/\w'.cell? ⟨w.heap.size,1,none⟩=some (vU 2139095040)/\w'.cell? ⟨w.heap.size,2,none⟩=some (vI 23)/\w'.cell? ⟨w.heap.size,3,none⟩=some (vI (-149))) (simp [*,go_sem])
    (first | (go_at_call 184;refine (HH _).mono ?_;rintro x w2 ⟨rfl,hb2⟩;have T2:Hid (ShB w w2 _ _ _ _):=T.out.drew.step hb2;clear hb2;obtain ⟨_,_,b0,b1,b2,b3⟩:=T2.out))
   go_wp2
   go_ret2
   exact ⟨rfl,T2.out.bel⟩
theorem wE (w:World):Cb 184 #[.agg #[vU 9223372036854775808,vU 9218868437227405312,vI 52,vI (-1074)]] w (vU 4503599627370496):=by
 go_enter Tryz.func184,Tryz.ntmps184
 go_wp2
 go_ret
 exact ⟨rfl,bz _ _⟩
theorem pQ {b:Nat}(h:b<18446744073709551616) (w:World):Cb 167 #[.agg #[vU 9223372036854775808,vU 9218868437227405312,vI 52,vI (-1074)],vU (b:Int)] w (.bool (ng 9223372036854775808 b)):=by
 have hA:=pH b h
 cases q:ng 9223372036854775808 b
 all_goals
  rw [q] at hA
  simp only [if_true,if_false,Bool.false_eq_true] at hA
  clear q h
  go_enter Tryz.func167,Tryz.ntmps167
  go_wp2
  go_ret
  exact ⟨rfl,bz _ _⟩
theorem iE {b:Nat}(h:b<18446744073709551616) (w:World):Cb 170 #[.agg #[vU 9223372036854775808,vU 9218868437227405312,vI 52,vI (-1074)],vU (b:Int)] w (vU ((mg 9223372036854775808 b:Nat):Int)):=by
 have hA:=mA b h
 clear h
 go_enter Tryz.func170,Tryz.ntmps170
 go_wp2
 go_ret
 exact ⟨rfl,bz _ _⟩
theorem mW {b:Nat}(h:b<18446744073709551616) (w:World):Cb 168 #[.agg #[vU 9223372036854775808,vU 9218868437227405312,vI 52,vI (-1074)],vU (b:Int)] w (vI (cl 9218868437227405312 (mg 9223372036854775808 b))):=by
 have HM:=fun W=>iE h W
 have hl:=iS (g:=9223372036854775808) (by decide) b
 generalize mg 9223372036854775808 b=x at *
 have C:=cA 9218868437227405312 x
 have C2:(((x:Int) == 0)=true/\cl 9218868437227405312 x=1) \/ (((x:Int) == 0)=false/\decide ((x:Int)<9218868437227405312)=true/\cl 9218868437227405312 x=2) \/ (((x:Int) == 0)=false/\decide ((x:Int)<9218868437227405312)=false/\((x:Int) == 9218868437227405312)=true/\cl 9218868437227405312 x=3) \/ (((x:Int) == 0)=false/\decide ((x:Int)<9218868437227405312)=false/\((x:Int) == 9218868437227405312)=false/\cl 9218868437227405312 x=4):=by
  rcases C with ⟨p,q⟩ | ⟨p0,p1,q⟩ | ⟨p0,p1,q⟩ | ⟨p1,q⟩
  . exact .inl ⟨by simp;omega,q⟩
  . exact .inr (.inl ⟨by simp;omega,by simp;omega,q⟩)
  . exact .inr (.inr (.inl ⟨by simp;omega,by simp;omega,by simp;omega,q⟩))
  . exact .inr (.inr (.inr ⟨by simp;omega,by simp;omega,by simp;omega,q⟩))
 clear C h hl
 generalize cl 9218868437227405312 x=C at *
 rcases C2 with ⟨p0,rfl⟩ | ⟨p0,p1,rfl⟩ | ⟨p0,p1,p2,rfl⟩ | ⟨p0,p1,p2,rfl⟩
 all_goals
  go_enter Tryz.func168,Tryz.ntmps168
  go_wp2_with fail
  refine (HM _).mono ?_
  rintro e w1 ⟨rfl,hb⟩
  have T:Hid (ShB w w1 _ _ _ _):=(ShB.start w (vU 9223372036854775808) (vU 9218868437227405312) (vI 52) (vI (-1074)) 185).step hb
  clear hb
  obtain ⟨_,_,a0,a1,a2,a3⟩:=T.out
  go_wp2
  go_ret
  exact ⟨rfl,T.out.bel⟩
theorem aBA {x:Nat}(h:x<9223372036854775808) (w:World):Cb 169 #[.agg #[vU 9223372036854775808,vU 9218868437227405312,vI 52,vI (-1074)],vU (x:Int)] w (.tuple #[vU ((mt 52 x:Nat):Int),vI (xp 52 (-1074) x)]):=by
 have HH:=fun W=>wE W
 have hM:=fF (m:=x) (by omega)
 have lo:=Nat.mod_lt x (show 0<4503599627370496 by decide)
 have hO:=mK lo
 have E1:Hid (mt 52 x=if x / 4503599627370496=0 then x else x % 4503599627370496+4503599627370496):=rfl
 have E2:Hid (xp 52 (-1074) x=if x / 4503599627370496=0 then (-1074) else (-1074)+((x / 4503599627370496:Nat):Int) - 1):=rfl
 have E3:Hid (x / 4503599627370496 * 4503599627370496+x % 4503599627370496=x):=Nat.div_add_mod' x 4503599627370496
 have hq:x / 4503599627370496<2048:=by omega
 have eq:(x:Int) / 4503599627370496=((x / 4503599627370496:Nat):Int):=rfl
 obtain ⟨r,hr⟩:∃ r,r=x % 4503599627370496:=⟨_,rfl⟩
 obtain ⟨k,hk⟩:∃ k,k=x / 4503599627370496:=⟨_,rfl⟩
 rw [<- hr] at hM hO lo E1 E3
 rw [<- hk] at hq eq E1 E2 E3
 have HR:Hid (r=x % 4503599627370496):=hr
 have HK:Hid (k=x / 4503599627370496):=hk
 clear hr hk
 by_cases z:k=0
 . have e0:((k:Int) == 0)=true:=by simp;omega
   have F:Hid (mt 52 x=r/\xp 52 (-1074) x=(-1074)):=⟨by rw [E1.out,if_pos z];have:=E3.out;rw [z] at this;omega,by rw [E2.out,if_pos z]⟩
   rw [F.out.1,F.out.2]
   clear z
   go_enter Tryz.func169,Tryz.ntmps169
   go_wp2_with fail
   refine (HH _).mono ?_
   rintro e w1 ⟨rfl,hb⟩
   have T:Hid (ShB w w1 _ _ _ _):=(ShB.start w (vU 9223372036854775808) (vU 9218868437227405312) (vI 52) (vI (-1074)) 185).step hb
   clear hb
   obtain ⟨_,_,a0,a1,a2,a3⟩:=T.out
   go_wp2
   go_region_held3 (fun w'=>w'.cell? ⟨w.heap.size,0,none⟩=some (vU 9223372036854775808)/\w'.cell? ⟨w.heap.size,1,none⟩=some (vU 9218868437227405312)/\w'.cell? ⟨w.heap.size,2,none⟩=some (vI 52)/\w'.cell? ⟨w.heap.size,3,none⟩=some (vI (-1074))) (simp [*,go_sem]) (fail)
   go_wp2
   go_ret2
   exact ⟨rfl,T.out.bel.drew⟩
 . have e0:((k:Int) == 0)=false:=by simp;omega
   have F:Hid (mt 52 x=r+4503599627370496/\xp 52 (-1074) x=(-1074)+(k:Int) - 1):=⟨by rw [E1.out,if_neg z],by rw [E2.out,if_neg z]⟩
   rw [F.out.1,F.out.2]
   have i1:IntKind.i64.wrap ((-1074)+(k:Int))=(-1074)+(k:Int):=IntWalk.i64_in _ ⟨by omega,by omega⟩
   have i2:IntKind.i64.wrap ((-1074)+(k:Int) - 1)=(-1074)+(k:Int) - 1:=IntWalk.i64_in _ ⟨by omega,by omega⟩
   go_enter Tryz.func169,Tryz.ntmps169
   go_wp2_with fail
   refine (HH _).mono ?_
   rintro e w1 ⟨rfl,hb⟩
   have T:Hid (ShB w w1 _ _ _ _):=(ShB.start w (vU 9223372036854775808) (vU 9218868437227405312) (vI 52) (vI (-1074)) 185).step hb
   clear hb
   obtain ⟨_,_,a0,a1,a2,a3⟩:=T.out
   go_wp2
   go_region_held3 (fun w'=>w'.cell? ⟨w.heap.size,0,none⟩=some (vU 9223372036854775808)/\w'.cell? ⟨w.heap.size,1,none⟩=some (vU 9218868437227405312)/\w'.cell? ⟨w.heap.size,2,none⟩=some (vI 52)/\w'.cell? ⟨w.heap.size,3,none⟩=some (vI (-1074))) (simp [*,go_sem])
    (first | (go_at_call 184;refine (HH _).mono ?_;rintro x w2 ⟨rfl,hb2⟩;have T2:Hid (ShB w w2 _ _ _ _):=T.out.drew.step hb2;clear hb2;obtain ⟨_,_,b0,b1,b2,b3⟩:=T2.out))
   go_wp2
   go_ret2
   exact ⟨rfl,T2.out.bel⟩
end Go.Proofs.YtblkokjkmbpejaaGreatDoor
