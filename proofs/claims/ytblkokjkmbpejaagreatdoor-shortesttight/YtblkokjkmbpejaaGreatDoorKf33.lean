/-
  Holds: VBtR.
-/
import Derived.Laws.BitsAllLaws
import Derived.Test.YtblkokjkmbpejaaGreatDoorRows
import Derived.WalkKit
import Derived.BigQuiet
import Derived.Deep.RegionHeld3
import Derived.Deep.DeepCutAuto
import Derived.Test.YtblkokjkmbpejaaGreatDoorKf11
set_option maxRecDepth 100000
set_option maxHeartbeats 4000000
namespace Go.Proofs.YtblkokjkmbpejaaGreatDoor
open Go.RowKit
theorem gJ (w:World):Cs 67 #[vI 32] w (vI 23):=by
 go_enter Tryz.func67,Tryz.ntmps67
 go_wp2
 go_ret
 exact ⟨rfl,rfl⟩
theorem rO (w:World):Cs 135 #[vI 32] w (vU 255):=by
 go_enter Tryz.func135,Tryz.ntmps135
 go_wp2
 go_ret
 exact ⟨rfl,rfl⟩
theorem rK (w:World):Cs 68 #[vI 32] w (vI (-149)):=by
 go_enter Tryz.func68,Tryz.ntmps68
 go_wp2
 go_ret
 exact ⟨rfl,rfl⟩
theorem oT (w:World):Cs 42 #[vI 32] w (vU 2147483648):=by
 go_enter Tryz.func42,Tryz.ntmps42
 go_wp2
 go_ret
 exact ⟨rfl,rfl⟩
theorem eV (w:World):Cs 74 #[vI 32] w (.bool true):=by
 go_enter Tryz.func74,Tryz.ntmps74
 go_wp2
 go_ret
 exact ⟨rfl,rfl⟩
theorem rI (w:World):Cs 101 #[vI 32] w (vU 2139095040):=by
 have H1:=fun W=>rO W
 have H2:=fun W=>gJ W
 go_enter Tryz.func101,Tryz.ntmps101
 go_wp2_with fail
 refine (H1 _).mono ?_
 rintro e w ⟨rfl,rfl⟩
 go_wp2_with fail
 refine (H2 _).mono ?_
 rintro e w ⟨rfl,rfl⟩
 go_wp2
 go_ret
 exact ⟨rfl,rfl⟩
theorem aB4 (w:World):Cs 116 #[vI 32] w (vU 2139095040):=by
 have H1:=fun W=>rI W
 go_enter Tryz.func116,Tryz.ntmps116
 go_wp2_with fail
 refine (H1 _).mono ?_
 rintro e w ⟨rfl,rfl⟩
 go_wp2
 go_ret
 exact ⟨rfl,rfl⟩
theorem iX {b:Nat}(h:b<4294967296) (w:World):Cs 21 #[vU (b:Int),vI 32] w (vU ((mg 2147483648 b:Nat):Int)):=by
 have hA:=lZ b h
 have H1:=fun W=>oT W
 clear h
 go_enter Tryz.func21,Tryz.ntmps21
 go_wp2_with fail
 refine (H1 _).mono ?_
 rintro e w ⟨rfl,rfl⟩
 go_wp2
 go_ret
 exact ⟨rfl,rfl⟩
theorem aDv {b:Nat}(h:b<4294967296) (w:World):Cs 66 #[vU (b:Int),vI 32] w (vI (cl 2139095040 (mg 2147483648 b))):=by
 have HM:=fun W=>iX h W
 have HI:=fun W=>rI W
 generalize mg 2147483648 b=x at *
 have C:=cA 2139095040 x
 have C2:(((x:Int) == 0)=true/\cl 2139095040 x=1) \/ (((x:Int) == 0)=false/\decide ((x:Int)<2139095040)=true/\cl 2139095040 x=2) \/ (((x:Int) == 0)=false/\decide ((x:Int)<2139095040)=false/\((x:Int) == 2139095040)=true/\cl 2139095040 x=3) \/ (((x:Int) == 0)=false/\decide ((x:Int)<2139095040)=false/\((x:Int) == 2139095040)=false/\cl 2139095040 x=4):=by
  rcases C with ⟨p,q⟩ | ⟨p0,p1,q⟩ | ⟨p0,p1,q⟩ | ⟨p1,q⟩
  . exact .inl ⟨by simp;omega,q⟩
  . exact .inr (.inl ⟨by simp;omega,by simp;omega,q⟩)
  . exact .inr (.inr (.inl ⟨by simp;omega,by simp;omega,by simp;omega,q⟩))
  . exact .inr (.inr (.inr ⟨by simp;omega,by simp;omega,by simp;omega,q⟩))
 clear C h
 generalize cl 2139095040 x=C at *
 rcases C2 with ⟨p0,rfl⟩ | ⟨p0,p1,rfl⟩ | ⟨p0,p1,p2,rfl⟩ | ⟨p0,p1,p2,rfl⟩
 . go_enter Tryz.func66,Tryz.ntmps66
   go_wp2_with fail
   refine (HM _).mono ?_
   rintro e w ⟨rfl,rfl⟩
   go_wp2
   go_ret
   exact ⟨rfl,rfl⟩
 . go_enter Tryz.func66,Tryz.ntmps66
   go_wp2_with fail
   refine (HM _).mono ?_
   rintro e w ⟨rfl,rfl⟩
   go_wp2_with fail
   refine (HI _).mono ?_
   rintro e w ⟨rfl,rfl⟩
   go_wp2
   go_ret
   exact ⟨rfl,rfl⟩
 . go_enter Tryz.func66,Tryz.ntmps66
   go_wp2_with fail
   refine (HM _).mono ?_
   rintro e w ⟨rfl,rfl⟩
   go_wp2_with fail
   refine (HI _).mono ?_
   rintro e w ⟨rfl,rfl⟩
   go_wp2_with fail
   refine (HI _).mono ?_
   rintro e w ⟨rfl,rfl⟩
   go_wp2
   go_ret
   exact ⟨rfl,rfl⟩
 . go_enter Tryz.func66,Tryz.ntmps66
   go_wp2_with fail
   refine (HM _).mono ?_
   rintro e w ⟨rfl,rfl⟩
   go_wp2_with fail
   refine (HI _).mono ?_
   rintro e w ⟨rfl,rfl⟩
   go_wp2_with fail
   refine (HI _).mono ?_
   rintro e w ⟨rfl,rfl⟩
   go_wp2
   go_ret
   exact ⟨rfl,rfl⟩
theorem kZ {x:Nat}(h:x<2147483648) (c:Bool) (w:World):Cs 139 #[.bool c,vU (x:Int),vI 32] w (vU ((sgd 2147483648 c x:Nat):Int)):=by
 have hA:=tP h
 have HS:=fun W=>oT W
 clear h
 cases c
 . go_enter Tryz.func139,Tryz.ntmps139
   go_wp2
   go_ret
   exact ⟨rfl,rfl⟩
 . go_enter Tryz.func139,Tryz.ntmps139
   go_wp2_with fail
   refine (HS _).mono ?_
   rintro e w ⟨rfl,rfl⟩
   go_wp2
   go_ret
   exact ⟨rfl,rfl⟩
theorem xN {b:Nat}(h:b<4294967296) (w:World):Cs 37 #[vU (b:Int),vI 32] w (.tuple #[vU ((mt 23 (mg 2147483648 b):Nat):Int),vI (xp 23 (-149) (mg 2147483648 b))]):=by
 have HM:=fun W=>iX h W
 have H2:=fun W=>gJ W
 have H3:=fun W=>rK W
 have hl:=iS (g:=2147483648) (by decide) b
 generalize mg 2147483648 b=x at *
 clear h
 have hM:=fC (m:=x) (by omega)
 have lo:=Nat.mod_lt x (show 0<8388608 by decide)
 have hO:=mJ lo
 have E1:Hid (mt 23 x=if x / 8388608=0 then x else x % 8388608+8388608):=rfl
 have E2:Hid (xp 23 (-149) x=if x / 8388608=0 then (-149) else (-149)+((x / 8388608:Nat):Int) - 1):=rfl
 have E3:Hid (x / 8388608 * 8388608+x % 8388608=x):=Nat.div_add_mod' x 8388608
 have hq:x / 8388608<2048:=by omega
 have eq:(x:Int) / 8388608=((x / 8388608:Nat):Int):=rfl
 obtain ⟨y,hr⟩:∃ y,y=x % 8388608:=⟨_,rfl⟩
 obtain ⟨k,hk⟩:∃ k,k=x / 8388608:=⟨_,rfl⟩
 rw [<- hr] at hM hO lo E1 E3
 rw [<- hk] at hq eq E1 E2 E3
 clear hr hk
 by_cases z:k=0
 . have e0:((k:Int) == 0)=true:=by simp;omega
   have G:Hid (mt 23 x=y/\xp 23 (-149) x=(-149)):=⟨by rw [E1.out,if_pos z];have:=E3.out;rw [z] at this;omega,by rw [E2.out,if_pos z]⟩
   rw [G.out.1,G.out.2]
   clear z
   go_enter Tryz.func37,Tryz.ntmps37
   go_wp2_with fail
   refine (HM _).mono ?_
   rintro e w ⟨rfl,rfl⟩
   go_wp2_with fail
   refine (H2 _).mono ?_
   rintro e w ⟨rfl,rfl⟩
   go_wp2_with fail
   refine (H3 _).mono ?_
   rintro e w ⟨rfl,rfl⟩
   go_wp2
   go_ret2
   exact ⟨rfl,rfl⟩
 . have e0:((k:Int) == 0)=false:=by simp;omega
   have G:Hid (mt 23 x=y+8388608/\xp 23 (-149) x=(-149)+(k:Int) - 1):=⟨by rw [E1.out,if_neg z],by rw [E2.out,if_neg z]⟩
   rw [G.out.1,G.out.2]
   clear z
   go_enter Tryz.func37,Tryz.ntmps37
   go_wp2_with fail
   refine (HM _).mono ?_
   rintro e w ⟨rfl,rfl⟩
   go_wp2_with fail
   refine (H2 _).mono ?_
   rintro e w ⟨rfl,rfl⟩
   go_wp2_with fail
   refine (H3 _).mono ?_
   rintro e w ⟨rfl,rfl⟩
   go_wp2
   go_ret2
   exact ⟨rfl,rfl⟩
theorem gK (w:World):Cs 67 #[vI 64] w (vI 52):=by
 go_enter Tryz.func67,Tryz.ntmps67
 go_wp2
 go_ret
 exact ⟨rfl,rfl⟩
theorem rP (w:World):Cs 135 #[vI 64] w (vU 2047):=by
 go_enter Tryz.func135,Tryz.ntmps135
 go_wp2
 go_ret
 exact ⟨rfl,rfl⟩
theorem rL (w:World):Cs 68 #[vI 64] w (vI (-1074)):=by
 go_enter Tryz.func68,Tryz.ntmps68
 go_wp2
 go_ret
 exact ⟨rfl,rfl⟩
theorem oU (w:World):Cs 42 #[vI 64] w (vU 9223372036854775808):=by
 go_enter Tryz.func42,Tryz.ntmps42
 go_wp2
 go_ret
 exact ⟨rfl,rfl⟩
theorem gL (w:World):Cs 74 #[vI 64] w (.bool true):=by
 go_enter Tryz.func74,Tryz.ntmps74
 go_wp2
 go_ret
 exact ⟨rfl,rfl⟩
theorem rJ (w:World):Cs 101 #[vI 64] w (vU 9218868437227405312):=by
 have H1:=fun W=>rP W
 have H2:=fun W=>gK W
 go_enter Tryz.func101,Tryz.ntmps101
 go_wp2_with fail
 refine (H1 _).mono ?_
 rintro e w ⟨rfl,rfl⟩
 go_wp2_with fail
 refine (H2 _).mono ?_
 rintro e w ⟨rfl,rfl⟩
 go_wp2
 go_ret
 exact ⟨rfl,rfl⟩
theorem aB5 (w:World):Cs 116 #[vI 64] w (vU 9218868437227405312):=by
 have H1:=fun W=>rJ W
 go_enter Tryz.func116,Tryz.ntmps116
 go_wp2_with fail
 refine (H1 _).mono ?_
 rintro e w ⟨rfl,rfl⟩
 go_wp2
 go_ret
 exact ⟨rfl,rfl⟩
theorem iY {b:Nat}(h:b<18446744073709551616) (w:World):Cs 21 #[vU (b:Int),vI 64] w (vU ((mg 9223372036854775808 b:Nat):Int)):=by
 have hA:=mA b h
 have H1:=fun W=>oU W
 clear h
 go_enter Tryz.func21,Tryz.ntmps21
 go_wp2_with fail
 refine (H1 _).mono ?_
 rintro e w ⟨rfl,rfl⟩
 go_wp2
 go_ret
 exact ⟨rfl,rfl⟩
theorem aDw {b:Nat}(h:b<18446744073709551616) (w:World):Cs 66 #[vU (b:Int),vI 64] w (vI (cl 9218868437227405312 (mg 9223372036854775808 b))):=by
 have HM:=fun W=>iY h W
 have HI:=fun W=>rJ W
 generalize mg 9223372036854775808 b=x at *
 have C:=cA 9218868437227405312 x
 have C2:(((x:Int) == 0)=true/\cl 9218868437227405312 x=1) \/ (((x:Int) == 0)=false/\decide ((x:Int)<9218868437227405312)=true/\cl 9218868437227405312 x=2) \/ (((x:Int) == 0)=false/\decide ((x:Int)<9218868437227405312)=false/\((x:Int) == 9218868437227405312)=true/\cl 9218868437227405312 x=3) \/ (((x:Int) == 0)=false/\decide ((x:Int)<9218868437227405312)=false/\((x:Int) == 9218868437227405312)=false/\cl 9218868437227405312 x=4):=by
  rcases C with ⟨p,q⟩ | ⟨p0,p1,q⟩ | ⟨p0,p1,q⟩ | ⟨p1,q⟩
  . exact .inl ⟨by simp;omega,q⟩
  . exact .inr (.inl ⟨by simp;omega,by simp;omega,q⟩)
  . exact .inr (.inr (.inl ⟨by simp;omega,by simp;omega,by simp;omega,q⟩))
  . exact .inr (.inr (.inr ⟨by simp;omega,by simp;omega,by simp;omega,q⟩))
 clear C h
 generalize cl 9218868437227405312 x=C at *
 rcases C2 with ⟨p0,rfl⟩ | ⟨p0,p1,rfl⟩ | ⟨p0,p1,p2,rfl⟩ | ⟨p0,p1,p2,rfl⟩
 . go_enter Tryz.func66,Tryz.ntmps66
   go_wp2_with fail
   refine (HM _).mono ?_
   rintro e w ⟨rfl,rfl⟩
   go_wp2
   go_ret
   exact ⟨rfl,rfl⟩
 . go_enter Tryz.func66,Tryz.ntmps66
   go_wp2_with fail
   refine (HM _).mono ?_
   rintro e w ⟨rfl,rfl⟩
   go_wp2_with fail
   refine (HI _).mono ?_
   rintro e w ⟨rfl,rfl⟩
   go_wp2
   go_ret
   exact ⟨rfl,rfl⟩
 . go_enter Tryz.func66,Tryz.ntmps66
   go_wp2_with fail
   refine (HM _).mono ?_
   rintro e w ⟨rfl,rfl⟩
   go_wp2_with fail
   refine (HI _).mono ?_
   rintro e w ⟨rfl,rfl⟩
   go_wp2_with fail
   refine (HI _).mono ?_
   rintro e w ⟨rfl,rfl⟩
   go_wp2
   go_ret
   exact ⟨rfl,rfl⟩
 . go_enter Tryz.func66,Tryz.ntmps66
   go_wp2_with fail
   refine (HM _).mono ?_
   rintro e w ⟨rfl,rfl⟩
   go_wp2_with fail
   refine (HI _).mono ?_
   rintro e w ⟨rfl,rfl⟩
   go_wp2_with fail
   refine (HI _).mono ?_
   rintro e w ⟨rfl,rfl⟩
   go_wp2
   go_ret
   exact ⟨rfl,rfl⟩
theorem lA {x:Nat}(h:x<9223372036854775808) (c:Bool) (w:World):Cs 139 #[.bool c,vU (x:Int),vI 64] w (vU ((sgd 9223372036854775808 c x:Nat):Int)):=by
 have hA:=tQ h
 have HS:=fun W=>oU W
 clear h
 cases c
 . go_enter Tryz.func139,Tryz.ntmps139
   go_wp2
   go_ret
   exact ⟨rfl,rfl⟩
 . go_enter Tryz.func139,Tryz.ntmps139
   go_wp2_with fail
   refine (HS _).mono ?_
   rintro e w ⟨rfl,rfl⟩
   go_wp2
   go_ret
   exact ⟨rfl,rfl⟩
theorem xO {b:Nat}(h:b<18446744073709551616) (w:World):Cs 37 #[vU (b:Int),vI 64] w (.tuple #[vU ((mt 52 (mg 9223372036854775808 b):Nat):Int),vI (xp 52 (-1074) (mg 9223372036854775808 b))]):=by
 have HM:=fun W=>iY h W
 have H2:=fun W=>gK W
 have H3:=fun W=>rL W
 have hl:=iS (g:=9223372036854775808) (by decide) b
 generalize mg 9223372036854775808 b=x at *
 clear h
 have hM:=fF (m:=x) (by omega)
 have lo:=Nat.mod_lt x (show 0<4503599627370496 by decide)
 have hO:=mK lo
 have E1:Hid (mt 52 x=if x / 4503599627370496=0 then x else x % 4503599627370496+4503599627370496):=rfl
 have E2:Hid (xp 52 (-1074) x=if x / 4503599627370496=0 then (-1074) else (-1074)+((x / 4503599627370496:Nat):Int) - 1):=rfl
 have E3:Hid (x / 4503599627370496 * 4503599627370496+x % 4503599627370496=x):=Nat.div_add_mod' x 4503599627370496
 have hq:x / 4503599627370496<2048:=by omega
 have eq:(x:Int) / 4503599627370496=((x / 4503599627370496:Nat):Int):=rfl
 obtain ⟨y,hr⟩:∃ y,y=x % 4503599627370496:=⟨_,rfl⟩
 obtain ⟨k,hk⟩:∃ k,k=x / 4503599627370496:=⟨_,rfl⟩
 rw [<- hr] at hM hO lo E1 E3
 rw [<- hk] at hq eq E1 E2 E3
 clear hr hk
 by_cases z:k=0
 . have e0:((k:Int) == 0)=true:=by simp;omega
   have G:Hid (mt 52 x=y/\xp 52 (-1074) x=(-1074)):=⟨by rw [E1.out,if_pos z];have:=E3.out;rw [z] at this;omega,by rw [E2.out,if_pos z]⟩
   rw [G.out.1,G.out.2]
   clear z
   go_enter Tryz.func37,Tryz.ntmps37
   go_wp2_with fail
   refine (HM _).mono ?_
   rintro e w ⟨rfl,rfl⟩
   go_wp2_with fail
   refine (H2 _).mono ?_
   rintro e w ⟨rfl,rfl⟩
   go_wp2_with fail
   refine (H3 _).mono ?_
   rintro e w ⟨rfl,rfl⟩
   go_wp2
   go_ret2
   exact ⟨rfl,rfl⟩
 . have e0:((k:Int) == 0)=false:=by simp;omega
   have G:Hid (mt 52 x=y+4503599627370496/\xp 52 (-1074) x=(-1074)+(k:Int) - 1):=⟨by rw [E1.out,if_neg z],by rw [E2.out,if_neg z]⟩
   rw [G.out.1,G.out.2]
   clear z
   go_enter Tryz.func37,Tryz.ntmps37
   go_wp2_with fail
   refine (HM _).mono ?_
   rintro e w ⟨rfl,rfl⟩
   go_wp2_with fail
   refine (H2 _).mono ?_
   rintro e w ⟨rfl,rfl⟩
   go_wp2_with fail
   refine (H3 _).mono ?_
   rintro e w ⟨rfl,rfl⟩
   go_wp2
   go_ret2
   exact ⟨rfl,rfl⟩
theorem aAK {s:Int}(h:Sn s) (w:World):Cs 74 #[vI s] w (.bool false):=by
 have p1:(s == 32)=false:=by simpa using h.1
 have p2:(s == 64)=false:=by simpa using h.2
 clear h
 go_enter Tryz.func74,Tryz.ntmps74
 go_wp2
 go_ret
 exact ⟨rfl,rfl⟩
theorem xI {s:Int}(h:Sn s) (b:Int) (w:World):Cs 65 #[vU b,vI s] w (vI 5):=by
 have H:=fun W=>aAK h W
 go_enter Tryz.func65,Tryz.ntmps65
 go_wp2_with fail
 refine (H _).mono ?_
 rintro e w ⟨rfl,rfl⟩
 go_wp2
 go_ret
 exact ⟨rfl,rfl⟩
theorem tV {b:Nat}(h:4294967296<=b) (w:World):Cs 65 #[vU (b:Int),vI 32] w (vI 1):=by
 have H:=fun W=>eV W
 have q:((b:Int) / 4294967296 != 0)=true:=by simp;omega
 go_enter Tryz.func65,Tryz.ntmps65
 go_wp2_with fail
 refine (H _).mono ?_
 rintro e w ⟨rfl,rfl⟩
 go_wp2
 go_ret
 exact ⟨rfl,rfl⟩
theorem xG {b:Nat}(h:b<4294967296) (w:World):Cs 65 #[vU (b:Int),vI 32] w (vI 0):=by
 have H:=fun W=>eV W
 have q:((b:Int) / 4294967296 != 0)=false:=by simp;omega
 go_enter Tryz.func65,Tryz.ntmps65
 go_wp2_with fail
 refine (H _).mono ?_
 rintro e w ⟨rfl,rfl⟩
 go_wp2
 go_ret
 exact ⟨rfl,rfl⟩
theorem xH (b:Int) (w:World):Cs 65 #[vU b,vI 64] w (vI 0):=by
 have H:=fun W=>gL W
 go_enter Tryz.func65,Tryz.ntmps65
 go_wp2_with fail
 refine (H _).mono ?_
 rintro e w ⟨rfl,rfl⟩
 go_wp2
 go_ret
 exact ⟨rfl,rfl⟩
end Go.Proofs.YtblkokjkmbpejaaGreatDoor
