/-
  Holds: VEwD VEwR VEwE.
-/
import Derived.Laws.BitsAllLaws
import Derived.Test.YtblkokjkmbpejaaGreatDoorChecked
import Derived.Lib.ItoaNum
import Derived.Laws.Externs
import Derived.WalkKit
import Derived.WalkSpells
import Derived.WalkLawsBesides
import Derived.Lib.Mul64
import Derived.Lib.TrailingZeros
import Derived.Deep.OwnRows
import Derived.Laws.CopyOwn
import Derived.BigQuiet
import Derived.Deep.RegionHeld3
import Derived.Deep.LoopGhost
import Derived.Deep.AppendLies
import Derived.Deep.DeepCutAuto
import Derived.Stop.Asserts
import Derived.RowKitTokens
import Derived.Lib.Strings
import Derived.Lib.BufferWrite
import Derived.Lib.ConvBytes
import Derived.Test.YtblkokjkmbpejaaGreatDoorRows
import Derived.Test.YtblkokjkmbpejaaGreatDoorKf22
import Derived.Test.YtblkokjkmbpejaaGreatDoorKf38
set_option maxRecDepth 100000
set_option maxHeartbeats 4000000
namespace Go.Proofs.YtblkokjkmbpejaaGreatDoor
open Go.RowKit
theorem fA {k:Nat}(h:k<=9):10 ^ k<=1000000000:=Nat.le_trans (Nat.pow_le_pow_right (by decide) h) (by decide)
theorem eI {s:ByteArray}(h:DG s) {k n:Nat}(hn:4 * k<32 * n):Fits n (dvA s 0 k):=cC (Nat.le_of_lt (kD h 0 k)) hn
theorem vJ {s:ByteArray}{i:Nat}(h:i<s.size):((s[i]'h).toNat)=dgt s i:=(aA h).symm
theorem aA7 {s:ByteArray}(hs:s.size<=801) (hd:DG s) (w:World):Calls Tryz.prog 102 #[.string s] w fun e w'=>∃ v,e=.returned v/\Big.NatV w' v (dvA s 0 s.size)/\Bl w w':=by
 have S0:=fun W=>bP 0 (by unfold B;decide) W
 have HD:Hid (DG s):=hd
 clear hd
 go_enter Tryz.func102,Tryz.ntmps102
 go_wp2_with fail
 refine (S0 _).mono ?_
 rintro e w1 ⟨v1,rfl,n1,B1⟩
 have N1:Hid (Big.NatV w1 v1 0/\Bl w w1):=⟨n1,B1⟩
 clear n1 B1 S0
 go_wp2
 go_loopw [3,4] (fun ov iv wr=>∃ j:Nat,iv=vI (j:Int)/\j<=s.size+8/\Hid (Big.NatV wr ov (dvA s 0 (min j s.size))/\Bl w wr)) (fun _ iv _=>s.size+9 - (intOf iv).toNat)
 case atStart=>exact ⟨0,rfl,by omega,by rw [Nat.zero_min];exact N1⟩
 case round =>
  clear N1
  obtain ⟨j,rfl,hj,HI⟩:=hrel
  by_cases c:j<s.size
  . have HI:Hid (Big.NatV wr u3 (dvA s 0 j)/\Bl w wr):=by
     have h:=HI.out
     rw [Nat.min_eq_left (by omega)] at h
     exact h
    by_cases q:j+9<s.size
    . have m1:(j:Int)+9<(s.size:Int):=by omega
      have z2:((j:Int)+9).toNat=j+9:=by omega
      obtain ⟨P,hP⟩:∃ P,P=s.extract j (j+9):=⟨_,rfl⟩
      have sP:P.size=(j+9) - j:=by rw [hP,ByteArray.size_extract];omega
      obtain ⟨l,hl⟩:∃ l,l=P.size:=⟨_,rfl⟩
      have l9:l<=9/\0<l:=by omega
      have HP:Hid (∀ i,i<l -> dgt P i=dgt s (j+i)):=fun i q=>by rw [hP];exact lM (by omega) (by omega)
      have HL:Hid (min (j+9) s.size=j+l):=by show _=_;omega
      have x1:s.extract j (j+9)=P:=hP.symm
      have z1:(j:Int).toNat=j:=by omega
      clear sP hP
      go_wp2
      go_loop [6,7,8] (fun nv uv kv=>∃ k a u:Nat,nv=vU (a:Int)/\uv=vU (u:Int)/\kv=vI (k:Int)/\k<=l/\a<1000000000/\u<=1000000000/\Hid (a=dvA s j k/\u=10 ^ k)) (fun _ _ kv=>l - (intOf kv).toNat)
      case atStart=>exact ⟨0,0,1,rfl,rfl,rfl,Nat.zero_le _,by decide,by decide,rfl,rfl⟩
      case round =>
       obtain ⟨k,a,u,rfl,rfl,rfl,hk,ha,hu,HK⟩:=hrel
       by_cases ck:k<l
       . have kP:k<P.size:=by omega
         have e1:=vJ kP
         have e2:dgt P k=dgt s (j+k):=HP.out k ck
         have e3:=kB HD.out (j+k)
         rw [e2] at e1
         have HN:Hid (a * 10+(dgt s (j+k) - 48)=dvA s j (k+1)/\u * 10=10 ^ (k+1)):=⟨by rw [dI,<- HK.out.1],by rw [HK.out.2,Nat.pow_succ]⟩
         have b1:a * 10+(dgt s (j+k) - 48)<1000000000:=by
          have q:=HN.out.1
          rw [q]
          exact Nat.lt_of_lt_of_le (kD HD.out j (k+1)) (fA (by omega))
         have b2:u * 10<=1000000000:=by
          have q:=HN.out.2
          rw [q]
          exact fA (by omega)
         have kI:(k:Int)<(P.size:Int):=by omega
         clear e2
         generalize dgt s (j+k)=d at *
         clear HK HP HL x1 z1 z2
         go_wp2
         go_round
         case rel=>exact ⟨k+1,a * 10+(d - 48),u * 10,by congr 1;omega,by congr 1,by go_num,by omega,b1,b2,HN⟩
         case measure=>simp [intOf];omega
       . obtain rfl:k=l:=by omega
         have cI:¬ (k:Int)<(P.size:Int):=by omega
         have S1:=fun W=>bP u (by unfold B;omega) W
         have S2:=fun W=>bP a (by unfold B;omega) W
         have FO:Hid (Fits 1000 (dvA s 0 j)/\Fits 1000 u/\Fits 1000 a/\Fits 1000 (dvA s 0 j * u)):=by
          refine ⟨eI HD.out (by omega),cC (k:=9) hu (by decide),cC (k:=9) (Nat.le_of_lt ha) (by decide),?_⟩
          exact ((eI (n:=200) HD.out (by omega)).mul (cC (k:=9) (n:=3) hu (by decide))).up (by decide)
         have HV:Hid (dvA s 0 j * u+a=dvA s 0 (min (j+9) s.size)):=by
          show _=_
          rw [HL.out,lO,HK.out.1,HK.out.2]
         clear HK HP HL x1 z1 z2 ha hu
         go_wp2_with fail
         refine (S1 _).mono ?_
         rintro e w1 ⟨v1,rfl,n1,B1⟩
         have N1:Hid (Big.NatV w1 v1 u/\Big.NatV w1 u3 (dvA s 0 j)/\Bl w w1):=⟨n1,HI.out.1.below B1,HI.out.2.trans (B1.mono HI.out.2.size)⟩
         clear n1 B1 S1
         have T:=dB N1.out.2.1 N1.out.1 FO.out.1 FO.out.2.1
         go_wp2_with fail
         refine T.mono ?_
         rintro e w2 ⟨v2,rfl,n2,B2⟩
         have N2:Hid (Big.NatV w2 v2 (dvA s 0 j * u)/\Bl w w2):=⟨n2,N1.out.2.2.trans (B2.mono N1.out.2.2.size)⟩
         clear n2 B2 T N1
         go_wp2_with fail
         refine (S2 _).mono ?_
         rintro e w3 ⟨v3,rfl,n3,B3⟩
         have N3:Hid (Big.NatV w3 v3 a/\Big.NatV w3 v2 (dvA s 0 j * u)/\Bl w w3):=⟨n3,N2.out.1.below B3,N2.out.2.trans (B3.mono N2.out.2.size)⟩
         clear n3 B3 S2 N2
         have T:=jT N3.out.2.1 N3.out.1 FO.out.2.2.2 FO.out.2.2.1
         go_wp2_with fail
         refine T.mono ?_
         rintro e w4 ⟨v4,rfl,n4,B4⟩
         rw [HV.out] at n4
         have N4:Hid (Big.NatV w4 v4 (dvA s 0 (min (j+9) s.size))/\Bl w w4):=⟨n4,N3.out.2.2.trans (B4.mono N3.out.2.2.size)⟩
         clear n4 B4 T N3 HV FO
         go_wp2
         go_roundw
         case rel=>exact ⟨j+9,by go_num,by omega,N4⟩
         case measure=>simp [intOf];omega
    . have m1:(s.size:Int)<=(j:Int)+9:=by omega
      have z2:((s.size:Nat):Int).toNat=s.size:=by omega
      obtain ⟨P,hP⟩:∃ P,P=s.extract j s.size:=⟨_,rfl⟩
      have sP:P.size=s.size - j:=by rw [hP,ByteArray.size_extract];omega
      obtain ⟨l,hl⟩:∃ l,l=P.size:=⟨_,rfl⟩
      have l9:l<=9/\0<l:=by omega
      have HP:Hid (∀ i,i<l -> dgt P i=dgt s (j+i)):=fun i q=>by rw [hP];exact lM (by omega) (by omega)
      have HL:Hid (min (j+9) s.size=j+l):=by show _=_;omega
      have x1:s.extract j s.size=P:=hP.symm
      have z1:(j:Int).toNat=j:=by omega
      clear sP hP
      go_wp2
      go_loop [6,7,8] (fun nv uv kv=>∃ k a u:Nat,nv=vU (a:Int)/\uv=vU (u:Int)/\kv=vI (k:Int)/\k<=l/\a<1000000000/\u<=1000000000/\Hid (a=dvA s j k/\u=10 ^ k)) (fun _ _ kv=>l - (intOf kv).toNat)
      case atStart=>exact ⟨0,0,1,rfl,rfl,rfl,Nat.zero_le _,by decide,by decide,rfl,rfl⟩
      case round =>
       obtain ⟨k,a,u,rfl,rfl,rfl,hk,ha,hu,HK⟩:=hrel
       by_cases ck:k<l
       . have kP:k<P.size:=by omega
         have e1:=vJ kP
         have e2:dgt P k=dgt s (j+k):=HP.out k ck
         have e3:=kB HD.out (j+k)
         rw [e2] at e1
         have HN:Hid (a * 10+(dgt s (j+k) - 48)=dvA s j (k+1)/\u * 10=10 ^ (k+1)):=⟨by rw [dI,<- HK.out.1],by rw [HK.out.2,Nat.pow_succ]⟩
         have b1:a * 10+(dgt s (j+k) - 48)<1000000000:=by
          have q:=HN.out.1
          rw [q]
          exact Nat.lt_of_lt_of_le (kD HD.out j (k+1)) (fA (by omega))
         have b2:u * 10<=1000000000:=by
          have q:=HN.out.2
          rw [q]
          exact fA (by omega)
         have kI:(k:Int)<(P.size:Int):=by omega
         clear e2
         generalize dgt s (j+k)=d at *
         clear HK HP HL x1 z1 z2
         go_wp2
         go_round
         case rel=>exact ⟨k+1,a * 10+(d - 48),u * 10,by congr 1;omega,by congr 1,by go_num,by omega,b1,b2,HN⟩
         case measure=>simp [intOf];omega
       . obtain rfl:k=l:=by omega
         have cI:¬ (k:Int)<(P.size:Int):=by omega
         have S1:=fun W=>bP u (by unfold B;omega) W
         have S2:=fun W=>bP a (by unfold B;omega) W
         have FO:Hid (Fits 1000 (dvA s 0 j)/\Fits 1000 u/\Fits 1000 a/\Fits 1000 (dvA s 0 j * u)):=by
          refine ⟨eI HD.out (by omega),cC (k:=9) hu (by decide),cC (k:=9) (Nat.le_of_lt ha) (by decide),?_⟩
          exact ((eI (n:=200) HD.out (by omega)).mul (cC (k:=9) (n:=3) hu (by decide))).up (by decide)
         have HV:Hid (dvA s 0 j * u+a=dvA s 0 (min (j+9) s.size)):=by
          show _=_
          rw [HL.out,lO,HK.out.1,HK.out.2]
         clear HK HP HL x1 z1 z2 ha hu
         go_wp2_with fail
         refine (S1 _).mono ?_
         rintro e w1 ⟨v1,rfl,n1,B1⟩
         have N1:Hid (Big.NatV w1 v1 u/\Big.NatV w1 u3 (dvA s 0 j)/\Bl w w1):=⟨n1,HI.out.1.below B1,HI.out.2.trans (B1.mono HI.out.2.size)⟩
         clear n1 B1 S1
         have T:=dB N1.out.2.1 N1.out.1 FO.out.1 FO.out.2.1
         go_wp2_with fail
         refine T.mono ?_
         rintro e w2 ⟨v2,rfl,n2,B2⟩
         have N2:Hid (Big.NatV w2 v2 (dvA s 0 j * u)/\Bl w w2):=⟨n2,N1.out.2.2.trans (B2.mono N1.out.2.2.size)⟩
         clear n2 B2 T N1
         go_wp2_with fail
         refine (S2 _).mono ?_
         rintro e w3 ⟨v3,rfl,n3,B3⟩
         have N3:Hid (Big.NatV w3 v3 a/\Big.NatV w3 v2 (dvA s 0 j * u)/\Bl w w3):=⟨n3,N2.out.1.below B3,N2.out.2.trans (B3.mono N2.out.2.size)⟩
         clear n3 B3 S2 N2
         have T:=jT N3.out.2.1 N3.out.1 FO.out.2.2.2 FO.out.2.2.1
         go_wp2_with fail
         refine T.mono ?_
         rintro e w4 ⟨v4,rfl,n4,B4⟩
         rw [HV.out] at n4
         have N4:Hid (Big.NatV w4 v4 (dvA s 0 (min (j+9) s.size))/\Bl w w4):=⟨n4,N3.out.2.2.trans (B4.mono N3.out.2.2.size)⟩
         clear n4 B4 T N3 HV FO
         go_wp2
         go_roundw
         case rel=>exact ⟨j+9,by go_num,by omega,N4⟩
         case measure=>simp [intOf];omega
  . have HI:Hid (Big.NatV wr u3 (dvA s 0 s.size)/\Bl w wr):=by
     have h:=HI.out
     rw [Nat.min_eq_right (by omega)] at h
     exact h
    go_wp2
    go_ret
    exact ⟨_,rfl,HI.out.1,HI.out.2⟩
theorem jM {b m:Nat}(hb:b<=16) (hm:m<=2400):Fits 1000 (b ^ m):=by
 refine (aZ (s:=4 * m) (by omega)).le ?_
 rw [Nat.pow_mul]
 exact Nat.pow_le_pow_left hb m
theorem kW (b n:Nat) (h1:2<=b) (h2:b<=16) (hn:n<=2400) (w:World) :
 Calls Tryz.prog 104 #[vU (b:Int),vI (n:Int)] w fun e w'=>∃ v,e=.returned v/\Big.NatV w' v (b ^ n)/\Bl w w':=by
 have S1:=fun W=>bP 1 (by unfold B;decide) W
 have S2:=fun W=>bP b (by unfold B;omega) W
 have HB:Hid (2<=b/\b<=16/\n<=2400):=⟨h1,h2,hn⟩
 clear h1 h2
 go_enter Tryz.func104,Tryz.ntmps104
 go_wp2_with fail
 refine (S1 _).mono ?_
 rintro e w1 ⟨v1,rfl,n1,b1⟩
 have N1:Hid (Big.NatV w1 v1 1/\Bl w w1):=⟨n1,b1⟩
 clear n1 b1
 go_wp2_with fail
 refine (S2 _).mono ?_
 rintro e w2 ⟨v2,rfl,n2,b2⟩
 have N2:Hid (Big.NatV w2 v1 1/\Big.NatV w2 v2 b/\Bl w w2):=⟨N1.out.1.below b2,n2,N1.out.2.trans (b2.mono N1.out.2.size)⟩
 clear n2 b2 N1 S1 S2
 go_wp2
 go_loopw [1,5,6] (fun nv ov pv wr=>∃ (m i j:Nat),nv=vI (m:Int)/\m<=2400/\Hid (Big.NatV wr ov (b ^ i)/\Big.NatV wr pv (b ^ j)/\Bl w wr/\i+j * m=n/\1<=j)) (fun nv _ _ _=>(intOf nv).toNat)
 case atStart=>exact ⟨n,0,1,rfl,hn,by rw [Nat.pow_zero,Nat.pow_one];exact ⟨N2.out.1,N2.out.2.1,N2.out.2.2,by rw [Nat.zero_add,Nat.one_mul],Nat.le_refl _⟩⟩
 case round =>
  clear N2
  obtain ⟨m,i,j,rfl,hm,HI⟩:=hrel
  by_cases m0:0<m
  . obtain ⟨h,hh⟩:∃ h,h=m / 2:=⟨_,rfl⟩
    have jm:j<=j * m:=Nat.le_mul_of_pos_right j m0
    have e2:(m:Int) / 2=(h:Int):=by omega
    have e3:(m:Int).tdiv 2=(h:Int):=by rw [Int.tdiv_eq_ediv_of_nonneg (by omega)];exact e2
    have hb64:h<=2400:=by omega
    have hlt:h<m:=by omega
    have FX:Hid (Fits 1000 (b ^ i)/\Fits 1000 (b ^ j)):=⟨jM HB.out.2.1 (by have:=HI.out.2.2.2.1;have:=HB.out;omega),jM HB.out.2.1 (by have:=HI.out.2.2.2.1;have:=HB.out;omega)⟩
    by_cases odd:m % 2=1
    . have e1:(m:Int) % 2=1:=by omega
      have e4:(m:Int).tmod 2=1:=by rw [Int.tmod_eq_emod_of_nonneg (by omega)];exact e1
      have HS:Hid ((i+j)+2 * (j * h)=n):=by
       have a:=HI.out.2.2.2.1
       have c:m=2 * h+1:=by omega
       rw [c,Nat.mul_add,Nat.mul_one,Nat.mul_left_comm] at a
       show _=_
       omega
      have T1:=dB HI.out.1 HI.out.2.1 FX.out.1 FX.out.2
      rw [<- Nat.pow_add] at T1
      by_cases h0:0<h
      . clear odd hh jm
        go_wp2_with fail
        refine T1.mono ?_
        rintro e w3 ⟨v3,rfl,n3,b3⟩
        have N3:Hid (Big.NatV w3 v3 (b ^ (i+j))/\Big.NatV w3 u6 (b ^ j)/\Bl w w3):=⟨n3,HI.out.2.1.below b3,HI.out.2.2.1.trans (b3.mono HI.out.2.2.1.size)⟩
        clear n3 b3 T1
        have T2:=dB N3.out.2.1 N3.out.2.1 FX.out.2 FX.out.2
        rw [<- Nat.pow_add] at T2
        go_wp2_with fail
        refine T2.mono ?_
        rintro e w4 ⟨v4,rfl,n4,b4⟩
        have N4:Hid (Big.NatV w4 v3 (b ^ (i+j))/\Big.NatV w4 v4 (b ^ (j+j))/\Bl w w4):=⟨N3.out.1.below b4,n4,N3.out.2.2.trans (b4.mono N3.out.2.2.size)⟩
        clear n4 b4 T2
        go_wp2
        go_roundw
        case rel=>exact ⟨h,i+j,j+j,rfl,hb64,N4.out.1,N4.out.2.1,N4.out.2.2,by have:=HS.out;rw [Nat.add_mul];omega,by have:=HI.out.2.2.2.2;omega⟩
        case measure=>simp [intOf];omega
      . have h00:h=0:=by omega
        subst h00
        clear odd hh jm
        go_wp2_with fail
        refine T1.mono ?_
        rintro e w3 ⟨v3,rfl,n3,b3⟩
        have N3:Hid (Big.NatV w3 v3 (b ^ (i+j))/\Big.NatV w3 u6 (b ^ j)/\Bl w w3):=⟨n3,HI.out.2.1.below b3,HI.out.2.2.1.trans (b3.mono HI.out.2.2.1.size)⟩
        clear n3 b3 T1
        go_wp2
        go_roundw
        case rel=>exact ⟨0,i+j,j,rfl,by omega,N3.out.1,N3.out.2.1,N3.out.2.2,by have:=HS.out;rw [Nat.mul_zero] at this ⊢;omega,HI.out.2.2.2.2⟩
        case measure=>simp [intOf];omega
    . have e1:(m:Int) % 2=0:=by omega
      have e4:(m:Int).tmod 2=0:=by rw [Int.tmod_eq_emod_of_nonneg (by omega)];exact e1
      have h0:0<h:=by omega
      have HS:Hid (i+2 * (j * h)=n):=by
       have a:=HI.out.2.2.2.1
       have c:m=2 * h:=by omega
       rw [c,Nat.mul_left_comm] at a
       exact a
      have T2:=dB HI.out.2.1 HI.out.2.1 FX.out.2 FX.out.2
      rw [<- Nat.pow_add] at T2
      clear odd hh jm
      go_wp2_with fail
      refine T2.mono ?_
      rintro e w4 ⟨v4,rfl,n4,b4⟩
      have N4:Hid (Big.NatV w4 u5 (b ^ i)/\Big.NatV w4 v4 (b ^ (j+j))/\Bl w w4):=⟨HI.out.1.below b4,n4,HI.out.2.2.1.trans (b4.mono HI.out.2.2.1.size)⟩
      clear n4 b4 T2
      go_wp2
      go_roundw
      case rel=>exact ⟨h,i,j+j,rfl,hb64,N4.out.1,N4.out.2.1,N4.out.2.2,by have:=HS.out;rw [Nat.add_mul];omega,by have:=HI.out.2.2.2.2;omega⟩
      case measure=>simp [intOf];omega
  . obtain rfl:m=0:=by omega
    have hin:i=n:=by have:=HI.out.2.2.2.1;rw [Nat.mul_zero] at this;omega
    subst hin
    go_wp2
    go_ret
    exact ⟨_,rfl,HI.out.1,HI.out.2.2.1⟩
structure DcB (W:World) (K:Nat) (a b c:Value):Prop where
 lt:K<W.heap.size
 a0:W.cell? ⟨K,0,none⟩=some a
 a1:W.cell? ⟨K,1,none⟩=some b
 a2:W.cell? ⟨K,2,none⟩=some c
 f0:W.frozen? ⟨K,0,none⟩=false
 f1:W.frozen? ⟨K,1,none⟩=false
 f2:W.frozen? ⟨K,2,none⟩=false
theorem DcB.step {W W':World}{K:Nat}{a b c:Value}(h:DcB W K a b c) (hb:Bl W W'):DcB W' K a b c:=by
 have k:=fun o=>hb.cell (p:=⟨K,o,none⟩) h.lt
 have j:=fun o=>hb.frozen (p:=⟨K,o,none⟩) h.lt
 exact ⟨Nat.lt_of_lt_of_le h.lt hb.size,(k 0).trans h.a0,(k 1).trans h.a1,(k 2).trans h.a2,(j 0).trans h.f0,(j 1).trans h.f1,(j 2).trans h.f2⟩
theorem DcB.new (W:World) (a b c:Value) (T:TypeId):DcB (W.alloc (.cells #[a,b,c] T)) W.heap.size a b c :=
 ⟨by simp,by simp,by simp,by simp,World.frozen?_alloc_new _ _ _ _,World.frozen?_alloc_new _ _ _ _,World.frozen?_alloc_new _ _ _ _⟩
def nrP (p:Int):Int:=if 500<p then 500 else if p < -500 then -500 else p
theorem kO (p:Int):-500<=nrP p/\nrP p<=500:=by unfold nrP;split <;> (try split) <;> omega
theorem aC6 {s:ByteArray}(hs:0<s.size) (p:Int) (c:Bool) (w:World):Cb 76 #[dcV s p c] w (dcV s (nrP p) c):=by
 have hE:=aB hs
 unfold dcV nrP
 by_cases c1:500<p
 . rw [if_pos c1]
   have c2:(-500:Int)<500:=by decide
   go_enter Tryz.func76,Tryz.ntmps76
   go_wp2
   refine bodyPost_ret (v:=.agg #[.string s,vI 500,.bool c]) (by simp [results,Tryz.results76,go_sem]) rfl ⟨rfl,(bz _ _).alloc (by simp) _⟩
 . rw [if_neg c1]
   have c2:p<=500:=by omega
   by_cases c3:p < -500
   . rw [if_pos c3]
     have c4:p <= -500:=by omega
     go_enter Tryz.func76,Tryz.ntmps76
     go_wp2
     refine bodyPost_ret (v:=.agg #[.string s,vI (-500),.bool c]) (by simp [results,Tryz.results76,go_sem]) rfl ⟨rfl,(bz _ _).alloc (by simp) _⟩
   . rw [if_neg c3]
     by_cases c5:p = -500
     . subst c5
       go_enter Tryz.func76,Tryz.ntmps76
       go_wp2
       refine bodyPost_ret (v:=.agg #[.string s,vI (-500),.bool c]) (by simp [results,Tryz.results76,go_sem]) rfl ⟨rfl,(bz _ _).alloc (by simp) _⟩
     . have c4:-500<p:=by omega
       go_enter Tryz.func76,Tryz.ntmps76
       go_wp2
       refine bodyPost_ret (v:=.agg #[.string s,vI p,.bool c]) (by simp [results,Tryz.results76,go_sem]) rfl ⟨rfl,(bz _ _).alloc (by simp) _⟩
theorem aBD {s:ByteArray}(hs:s.size<=801) (hd:DG s) {p:Int}(c:Bool) (h1:p<=500) {k:Nat}(hk:p=(s.size:Int)+k) (w:World):Calls Tryz.prog 75 #[dcV s p c] w fun e w'=>∃ v1 v2,e=.returned (.tuple #[v1,v2])/\Big.NatV w' v1 (dvA s 0 s.size * 10 ^ k)/\Big.NatV w' v2 1/\Bl w w':=by
 have T0:=fun W=>aA7 hs hd W
 have T1:=fun W=>kW 10 k (by decide) (by decide) (by omega) W
 rw [show ((10:Nat):Int)=10 from rfl] at T1
 have T2:=fun W=>bP 1 (by unfold B;decide) W
 rw [show ((1:Nat):Int)=1 from rfl] at T2
 have FF:Hid (Fits 1000 (dvA s 0 s.size)/\Fits 1000 (10 ^ k)):=⟨eI hd (by omega),jM (by decide) (by omega)⟩
 have ek:p - (s.size:Int)=(k:Int):=by omega
 have k0:(0:Int)<=(k:Int):=by omega
 clear hk hd
 unfold dcV
 go_enter Tryz.func75,Tryz.ntmps75
 go_wp2_with fail
 refine (T0 _).mono ?_
 rintro e w1 ⟨v1,rfl,n1,b1⟩
 have D1:Hid (DcB w1 w.heap.size (.string s) (vI p) (.bool c)):=(DcB.new w _ _ _ _).step b1
 have N1:Hid (Big.NatV w1 v1 (dvA s 0 s.size)/\Bl w w1):=⟨n1,(bz _ _).trans (b1.mono (by simp))⟩
 clear n1 b1 T0
 obtain ⟨_,a0,a1,a2,_,_,_⟩:=D1.out
 go_wp2_with fail
 refine (T1 _).mono ?_
 rintro e w2 ⟨v2,rfl,n2,b2⟩
 have N2:Hid (Big.NatV w2 v2 (10 ^ k)/\Big.NatV w2 v1 (dvA s 0 s.size)/\Bl w w2):=⟨n2,N1.out.1.below b2,N1.out.2.trans (b2.mono N1.out.2.size)⟩
 clear n2 b2 T1 N1 a0 a1 a2 D1
 have T:=dB N2.out.2.1 N2.out.1 FF.out.1 FF.out.2
 go_wp2_with fail
 refine T.mono ?_
 rintro e w3 ⟨v3,rfl,n3,b3⟩
 have N3:Hid (Big.NatV w3 v3 (dvA s 0 s.size * 10 ^ k)/\Bl w w3):=⟨n3,N2.out.2.2.trans (b3.mono N2.out.2.2.size)⟩
 clear n3 b3 T N2
 go_wp2_with fail
 refine (T2 _).mono ?_
 rintro e w4 ⟨v4,rfl,n4,b4⟩
 have N4:Hid (Big.NatV w4 v3 (dvA s 0 s.size * 10 ^ k)/\Big.NatV w4 v4 1/\Bl w w4):=⟨N3.out.1.below b4,n4,N3.out.2.trans (b4.mono N3.out.2.size)⟩
 clear n4 b4 T2 N3
 go_wp2
 exact bodyPost_ret (v:=.tuple #[v3,v4]) (by simp [results,Tryz.results75,go_sem]) rfl ⟨v3,v4,rfl,N4.out.1,N4.out.2.1,N4.out.2.2⟩
theorem aBC {s:ByteArray}(hs:s.size<=801) (hd:DG s) {p:Int}(c:Bool) {k:Nat}(k0:0<k) (k9:k<=2400) (hk:(s.size:Int)=p+k) (w:World):Calls Tryz.prog 75 #[dcV s p c] w fun e w'=>∃ v1 v2,e=.returned (.tuple #[v1,v2])/\Big.NatV w' v1 (dvA s 0 s.size)/\Big.NatV w' v2 (10 ^ k)/\Bl w w':=by
 have T0:=fun W=>aA7 hs hd W
 have T1:=fun W=>kW 10 k (by decide) (by decide) k9 W
 rw [show ((10:Nat):Int)=10 from rfl] at T1
 have ek:p - (s.size:Int) = -(k:Int):=by omega
 have k1:¬ (0:Int) <= -(k:Int):=by omega
 have p1:-9000000000<=p/\p<=801:=by omega
 clear hk hd k0
 unfold dcV
 go_enter Tryz.func75,Tryz.ntmps75
 go_wp2_with fail
 refine (T0 _).mono ?_
 rintro e w1 ⟨v1,rfl,n1,b1⟩
 have D1:Hid (DcB w1 w.heap.size (.string s) (vI p) (.bool c)):=(DcB.new w _ _ _ _).step b1
 have N1:Hid (Big.NatV w1 v1 (dvA s 0 s.size)/\Bl w w1):=⟨n1,(bz _ _).trans (b1.mono (by simp))⟩
 clear n1 b1 T0
 obtain ⟨_,a0,a1,a2,_,_,_⟩:=D1.out
 go_wp2_with fail
 refine (T1 _).mono ?_
 rintro e w2 ⟨v2,rfl,n2,b2⟩
 have N2:Hid (Big.NatV w2 v2 (10 ^ k)/\Big.NatV w2 v1 (dvA s 0 s.size)/\Bl w w2):=⟨n2,N1.out.1.below b2,N1.out.2.trans (b2.mono N1.out.2.size)⟩
 clear n2 b2 T1 N1 a0 a1 a2 D1
 go_wp2
 exact bodyPost_ret (v:=.tuple #[v1,v2]) (by simp [results,Tryz.results75,go_sem]) rfl ⟨v1,v2,rfl,N2.out.2.1,N2.out.1,N2.out.2.2⟩
def frN (s:ByteArray) (p:Int):Nat:=dvA s 0 s.size * 10 ^ (p - s.size).toNat
def frD (s:ByteArray) (p:Int):Nat:=10 ^ ((s.size:Int) - p).toNat
theorem aCS {s:ByteArray}(hs:s.size<=801) (hd:DG s) {p:Int}(c:Bool) (h0:-500<=p) (h1:p<=500) (w:World):Calls Tryz.prog 75 #[dcV s p c] w fun e w'=>∃ v1 v2,e=.returned (.tuple #[v1,v2])/\Big.NatV w' v1 (frN s p)/\Big.NatV w' v2 (frD s p)/\Bl w w':=by
 unfold frN frD
 by_cases q:(s.size:Int)<=p
 . obtain ⟨k,hk⟩:∃ k:Nat,p=(s.size:Int)+k:=⟨(p - s.size).toNat,by omega⟩
   rw [show (p - (s.size:Int)).toNat=k from by omega,show ((s.size:Int) - p).toNat=0 from by omega,Nat.pow_zero]
   exact aBD hs hd c h1 hk w
 . obtain ⟨k,hk⟩:∃ k:Nat,(s.size:Int)=p+k:=⟨((s.size:Int) - p).toNat,by omega⟩
   rw [show (p - (s.size:Int)).toNat=0 from by omega,show ((s.size:Int) - p).toNat=k from by omega,Nat.pow_zero,Nat.mul_one]
   exact aBC hs hd c (by omega) (by omega) hk w
theorem zS {s:ByteArray}(hs:s.size<=801) (hd:DG s) {p:Int}(h1:p<=500):Fits 256 (frN s p):=by
 unfold frN
 have a:=kD hd 0 s.size
 refine cC (k:=s.size+(p - s.size).toNat) ?_ (by omega)
 rw [Nat.pow_add]
 exact Nat.mul_le_mul_right _ (Nat.le_of_lt a)
theorem zR {s:ByteArray}(hs:s.size<=801) {p:Int}(h0:-500<=p):Fits 256 (frD s p):=cC (Nat.le_refl _) (by omega)
theorem aBt {s:ByteArray}(hd:DG s) (hf:dgt s 0 ≠ 48) {k:Nat}(hk:0<k):0<dvA s 0 k:=by
 obtain ⟨j,rfl⟩:∃ j,k=1+j:=⟨k - 1,by omega⟩
 rw [lO]
 have:=kB hd 0
 have e:dvA s 0 1=dgt s 0 - 48:=by rw [dI,Nat.add_zero];show 0 * 10+_=_;omega
 have:=Nat.mul_pos (show 0<dvA s 0 1 by omega) (Nat.pow_pos (n:=j) (show 0<10 by decide))
 omega
theorem VN.val {s:ByteArray}{p:Int}{c:Bool}(h:VN s p c):0<dvA s 0 s.size:=aBt h.dg (by rw [aA h.pos];exact h.first) h.pos
end Go.Proofs.YtblkokjkmbpejaaGreatDoor
