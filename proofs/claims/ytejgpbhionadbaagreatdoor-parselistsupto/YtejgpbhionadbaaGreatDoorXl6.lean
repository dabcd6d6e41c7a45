/-
  Holds: UEwM UEwD.
-/
import Derived.Laws.BitsAllLaws
import Derived.Test.YtejgpbhionadbaaGreatDoorChecked
import Derived.Lib.ItoaNum
import Derived.Laws.Externs
import Derived.WalkKit
import Derived.WalkSpells
import Derived.WalkLawsBesides
import Derived.Lib.Mul64
import Derived.Lib.TrailingZeros
import Derived.Deep.OwnRows
import Derived.Laws.CopyOwn
import Derived.BigQuiet
import Derived.Deep.RegionHeld3
import Derived.Deep.LoopGhost
import Derived.Deep.AppendLies
import Derived.Deep.DeepCutAuto
import Derived.Stop.Asserts
import Derived.RowKitTokens
import Derived.Lib.Strings
import Derived.Lib.BufferWrite
import Derived.Lib.ConvBytes
import Derived.Test.YtejgpbhionadbaaGreatDoorXl4
import Derived.Test.YtejgpbhionadbaaGreatDoorXl5
set_option maxRecDepth 100000
set_option maxHeartbeats 4000000
namespace Go.Proofs.YtejgpbhionadbaaGreatDoor
theorem gZ {s:ByteArray}(h:DG s) (i:Nat):48<=dgt s i/\dgt s i<=57:=by
 unfold dgt
 split
 . rename_i q;exact h i q
 . omega
def dvA (s:ByteArray) (a:Nat):Nat -> Nat
 | 0=>0
 | k+1=>dvA s a k * 10+(dgt s (a+k) - 48)
theorem bH (s:ByteArray) (a k:Nat):dvA s a (k+1)=dvA s a k * 10+(dgt s (a+k) - 48):=rfl
theorem gK      (s : ByteArray) (a k : Nat) : dvA s 0 (a + k) = dvA s 0 a * 10 ^ k + dvA s a k := by
  induction k with
  | zero => rw [Nat.add_zero, Nat.pow_zero, Nat.mul_one]; rfl
  | succ k ih =>
    rw [← Nat.add_assoc, bH      , bH      , ih, Nat.zero_add, Nat.pow_succ, Nat.add_mul, Nat.mul_assoc]
    omega
theorem dN     {s : ByteArray} (h : DG s) (a k : Nat) : dvA s a k < 10 ^ k := by
  induction k with
  | zero => exact Nat.one_pos
  | succ k ih =>
    have := gZ     h (a + k)
    rw [bH      , Nat.pow_succ]
    omega
theorem aGp {s t:ByteArray}{a b k:Nat}(h:∀ i,i<k -> dgt s (a+i)=dgt t (b+i)):dvA s a k=dvA t b k:=by
 induction k with
 | zero=>rfl
 | succ k ih=>rw [bH,bH,ih fun i q=>h i (by omega),h k (by omega)]
theorem aBi {s:ByteArray}{m i:Nat}(hm:m<=s.size) (h:i<m):dgt (s.extract 0 m) i=dgt s i:=by
 have hs:i<(s.extract 0 m).size:=by rw [ByteArray.size_extract];omega
 rw [cO hs,cO (by omega:i<s.size)]
 congr 1
 rw [ByteArray.getElem_extract]
 congr 1
 omega
theorem aBj {s:ByteArray}{a b i:Nat}(hb:b<=s.size) (h:i<b - a):dgt (s.extract a b) i=dgt s (a+i):=by
 have hs:i<(s.extract a b).size:=by rw [ByteArray.size_extract];omega
 rw [cO hs,cO (by omega:a+i<s.size)]
 congr 1
 rw [ByteArray.getElem_extract]
theorem cF {X k n:Nat}(h:X<=10 ^ k) (hn:4 * k<32 * n):Fits n X:=by
 refine (dZ (s:=4 * k) hn).le (Nat.le_trans h ?_)
 rw [Nat.pow_mul]
 exact Nat.pow_le_pow_left (by decide) k
end Go.Proofs.YtejgpbhionadbaaGreatDoor
namespace Go.Proofs.YtejgpbhionadbaaGreatDoor
open Go.RowKit
theorem iW {k:Nat}(h:k<=9):10 ^ k<=1000000000:=Nat.le_trans (Nat.pow_le_pow_right (by decide) h) (by decide)
theorem hH {s:ByteArray}(h:DG s) {k n:Nat}(hn:4 * k<32 * n):Fits n (dvA s 0 k):=cF (Nat.le_of_lt (dN h 0 k)) hn
theorem aDz {s:ByteArray}{i:Nat}(h:i<s.size):((s[i]'h).toNat)=dgt s i:=(cO h).symm
theorem aH1 {s:ByteArray}(hs:s.size<=801) (hd:DG s) (w:World):Calls Tryz.prog 172 #[.string s] w fun e w'=>∃ v,e=.returned v/\Big.NatV w' v (dvA s 0 s.size)/\Bl w w':=by
 have S0:=fun W=>bD 0 (by unfold B;decide) W
 have HD:Hid (DG s):=hd
 clear hd
 go_enter Tryz.func172,Tryz.ntmps172
 go_wp2_with fail
 refine (S0 _).mono ?_
 rintro e w1 ⟨v1,rfl,n1,B1⟩
 have N1:Hid (Big.NatV w1 v1 0/\Bl w w1):=⟨n1,B1⟩
 clear n1 B1 S0
 go_wp2
 go_loopw [3,4] (fun ov iv wr=>∃ j:Nat,iv=vI (j:Int)/\j<=s.size+8/\Hid (Big.NatV wr ov (dvA s 0 (min j s.size))/\Bl w wr)) (fun _ iv _=>s.size+9 - (intOf iv).toNat)
 case atStart=>exact ⟨0,rfl,by omega,by rw [Nat.zero_min];exact N1⟩
 case round =>
  clear N1
  obtain ⟨j,rfl,hj,HI⟩:=hrel
  by_cases c:j<s.size
  . have HI:Hid (Big.NatV wr u3 (dvA s 0 j)/\Bl w wr):=by
     have h:=HI.out
     rw [Nat.min_eq_left (by omega)] at h
     exact h
    by_cases q:j+9<s.size
    . have m1:(j:Int)+9<(s.size:Int):=by omega
      have z2:((j:Int)+9).toNat=j+9:=by omega
      obtain ⟨P,hP⟩:∃ P,P=s.extract j (j+9):=⟨_,rfl⟩
      have sP:P.size=(j+9) - j:=by rw [hP,ByteArray.size_extract];omega
      obtain ⟨l,hl⟩:∃ l,l=P.size:=⟨_,rfl⟩
      have l9:l<=9/\0<l:=by omega
      have HP:Hid (∀ i,i<l -> dgt P i=dgt s (j+i)):=fun i q=>by rw [hP];exact aBj (by omega) (by omega)
      have HL:Hid (min (j+9) s.size=j+l):=by show _=_;omega
      have x1:s.extract j (j+9)=P:=hP.symm
      have z1:(j:Int).toNat=j:=by omega
      clear sP hP
      go_wp2
      go_loop [6,7,8] (fun nv uv kv=>∃ k a u:Nat,nv=vU (a:Int)/\uv=vU (u:Int)/\kv=vI (k:Int)/\k<=l/\a<1000000000/\u<=1000000000/\Hid (a=dvA s j k/\u=10 ^ k)) (fun _ _ kv=>l - (intOf kv).toNat)
      case atStart=>exact ⟨0,0,1,rfl,rfl,rfl,Nat.zero_le _,by decide,by decide,rfl,rfl⟩
      case round =>
       obtain ⟨k,a,u,rfl,rfl,rfl,hk,ha,hu,HK⟩:=hrel
       by_cases ck:k<l
       . have kP:k<P.size:=by omega
         have e1:=aDz kP
         have e2:dgt P k=dgt s (j+k):=HP.out k ck
         have e3:=gZ HD.out (j+k)
         rw [e2] at e1
         have HN:Hid (a * 10+(dgt s (j+k) - 48)=dvA s j (k+1)/\u * 10=10 ^ (k+1)):=⟨by rw [bH,<- HK.out.1],by rw [HK.out.2,Nat.pow_succ]⟩
         have b1:a * 10+(dgt s (j+k) - 48)<1000000000:=by
          have q:=HN.out.1
          rw [q]
          exact Nat.lt_of_lt_of_le (dN HD.out j (k+1)) (iW (by omega))
         have b2:u * 10<=1000000000:=by
          have q:=HN.out.2
          rw [q]
          exact iW (by omega)
         have kI:(k:Int)<(P.size:Int):=by omega
         clear e2
         generalize dgt s (j+k)=d at *
         clear HK HP HL x1 z1 z2
         go_wp2
         go_round
         case rel=>exact ⟨k+1,a * 10+(d - 48),u * 10,by congr 1;omega,by congr 1,by go_num,by omega,b1,b2,HN⟩
         case measure=>simp [intOf];omega
       . obtain rfl:k=l:=by omega
         have cI:¬ (k:Int)<(P.size:Int):=by omega
         have S1:=fun W=>bD u (by unfold B;omega) W
         have S2:=fun W=>bD a (by unfold B;omega) W
         have FO:Hid (Fits 1000 (dvA s 0 j)/\Fits 1000 u/\Fits 1000 a/\Fits 1000 (dvA s 0 j * u)):=by
          refine ⟨hH HD.out (by omega),cF (k:=9) hu (by decide),cF (k:=9) (Nat.le_of_lt ha) (by decide),?_⟩
          exact ((hH (n:=200) HD.out (by omega)).mul (cF (k:=9) (n:=3) hu (by decide))).up (by decide)
         have HV:Hid (dvA s 0 j * u+a=dvA s 0 (min (j+9) s.size)):=by
          show _=_
          rw [HL.out,gK,HK.out.1,HK.out.2]
         clear HK HP HL x1 z1 z2 ha hu
         go_wp2_with fail
         refine (S1 _).mono ?_
         rintro e w1 ⟨v1,rfl,n1,B1⟩
         have N1:Hid (Big.NatV w1 v1 u/\Big.NatV w1 u3 (dvA s 0 j)/\Bl w w1):=⟨n1,HI.out.1.below B1,HI.out.2.trans (B1.mono HI.out.2.size)⟩
         clear n1 B1 S1
         have T:=eJ N1.out.2.1 N1.out.1 FO.out.1 FO.out.2.1
         go_wp2_with fail
         refine T.mono ?_
         rintro e w2 ⟨v2,rfl,n2,B2⟩
         have N2:Hid (Big.NatV w2 v2 (dvA s 0 j * u)/\Bl w w2):=⟨n2,N1.out.2.2.trans (B2.mono N1.out.2.2.size)⟩
         clear n2 B2 T N1
         go_wp2_with fail
         refine (S2 _).mono ?_
         rintro e w3 ⟨v3,rfl,n3,B3⟩
         have N3:Hid (Big.NatV w3 v3 a/\Big.NatV w3 v2 (dvA s 0 j * u)/\Bl w w3):=⟨n3,N2.out.1.below B3,N2.out.2.trans (B3.mono N2.out.2.size)⟩
         clear n3 B3 S2 N2
         have T:=pI N3.out.2.1 N3.out.1 FO.out.2.2.2 FO.out.2.2.1
         go_wp2_with fail
         refine T.mono ?_
         rintro e w4 ⟨v4,rfl,n4,B4⟩
         rw [HV.out] at n4
         have N4:Hid (Big.NatV w4 v4 (dvA s 0 (min (j+9) s.size))/\Bl w w4):=⟨n4,N3.out.2.2.trans (B4.mono N3.out.2.2.size)⟩
         clear n4 B4 T N3 HV FO
         go_wp2
         go_roundw
         case rel=>exact ⟨j+9,by go_num,by omega,N4⟩
         case measure=>simp [intOf];omega
    . have m1:(s.size:Int)<=(j:Int)+9:=by omega
      have z2:((s.size:Nat):Int).toNat=s.size:=by omega
      obtain ⟨P,hP⟩:∃ P,P=s.extract j s.size:=⟨_,rfl⟩
      have sP:P.size=s.size - j:=by rw [hP,ByteArray.size_extract];omega
      obtain ⟨l,hl⟩:∃ l,l=P.size:=⟨_,rfl⟩
      have l9:l<=9/\0<l:=by omega
      have HP:Hid (∀ i,i<l -> dgt P i=dgt s (j+i)):=fun i q=>by rw [hP];exact aBj (by omega) (by omega)
      have HL:Hid (min (j+9) s.size=j+l):=by show _=_;omega
      have x1:s.extract j s.size=P:=hP.symm
      have z1:(j:Int).toNat=j:=by omega
      clear sP hP
      go_wp2
      go_loop [6,7,8] (fun nv uv kv=>∃ k a u:Nat,nv=vU (a:Int)/\uv=vU (u:Int)/\kv=vI (k:Int)/\k<=l/\a<1000000000/\u<=1000000000/\Hid (a=dvA s j k/\u=10 ^ k)) (fun _ _ kv=>l - (intOf kv).toNat)
      case atStart=>exact ⟨0,0,1,rfl,rfl,rfl,Nat.zero_le _,by decide,by decide,rfl,rfl⟩
      case round =>
       obtain ⟨k,a,u,rfl,rfl,rfl,hk,ha,hu,HK⟩:=hrel
       by_cases ck:k<l
       . have kP:k<P.size:=by omega
         have e1:=aDz kP
         have e2:dgt P k=dgt s (j+k):=HP.out k ck
         have e3:=gZ HD.out (j+k)
         rw [e2] at e1
         have HN:Hid (a * 10+(dgt s (j+k) - 48)=dvA s j (k+1)/\u * 10=10 ^ (k+1)):=⟨by rw [bH,<- HK.out.1],by rw [HK.out.2,Nat.pow_succ]⟩
         have b1:a * 10+(dgt s (j+k) - 48)<1000000000:=by
          have q:=HN.out.1
          rw [q]
          exact Nat.lt_of_lt_of_le (dN HD.out j (k+1)) (iW (by omega))
         have b2:u * 10<=1000000000:=by
          have q:=HN.out.2
          rw [q]
          exact iW (by omega)
         have kI:(k:Int)<(P.size:Int):=by omega
         clear e2
         generalize dgt s (j+k)=d at *
         clear HK HP HL x1 z1 z2
         go_wp2
         go_round
         case rel=>exact ⟨k+1,a * 10+(d - 48),u * 10,by congr 1;omega,by congr 1,by go_num,by omega,b1,b2,HN⟩
         case measure=>simp [intOf];omega
       . obtain rfl:k=l:=by omega
         have cI:¬ (k:Int)<(P.size:Int):=by omega
         have S1:=fun W=>bD u (by unfold B;omega) W
         have S2:=fun W=>bD a (by unfold B;omega) W
         have FO:Hid (Fits 1000 (dvA s 0 j)/\Fits 1000 u/\Fits 1000 a/\Fits 1000 (dvA s 0 j * u)):=by
          refine ⟨hH HD.out (by omega),cF (k:=9) hu (by decide),cF (k:=9) (Nat.le_of_lt ha) (by decide),?_⟩
          exact ((hH (n:=200) HD.out (by omega)).mul (cF (k:=9) (n:=3) hu (by decide))).up (by decide)
         have HV:Hid (dvA s 0 j * u+a=dvA s 0 (min (j+9) s.size)):=by
          show _=_
          rw [HL.out,gK,HK.out.1,HK.out.2]
         clear HK HP HL x1 z1 z2 ha hu
         go_wp2_with fail
         refine (S1 _).mono ?_
         rintro e w1 ⟨v1,rfl,n1,B1⟩
         have N1:Hid (Big.NatV w1 v1 u/\Big.NatV w1 u3 (dvA s 0 j)/\Bl w w1):=⟨n1,HI.out.1.below B1,HI.out.2.trans (B1.mono HI.out.2.size)⟩
         clear n1 B1 S1
         have T:=eJ N1.out.2.1 N1.out.1 FO.out.1 FO.out.2.1
         go_wp2_with fail
         refine T.mono ?_
         rintro e w2 ⟨v2,rfl,n2,B2⟩
         have N2:Hid (Big.NatV w2 v2 (dvA s 0 j * u)/\Bl w w2):=⟨n2,N1.out.2.2.trans (B2.mono N1.out.2.2.size)⟩
         clear n2 B2 T N1
         go_wp2_with fail
         refine (S2 _).mono ?_
         rintro e w3 ⟨v3,rfl,n3,B3⟩
         have N3:Hid (Big.NatV w3 v3 a/\Big.NatV w3 v2 (dvA s 0 j * u)/\Bl w w3):=⟨n3,N2.out.1.below B3,N2.out.2.trans (B3.mono N2.out.2.size)⟩
         clear n3 B3 S2 N2
         have T:=pI N3.out.2.1 N3.out.1 FO.out.2.2.2 FO.out.2.2.1
         go_wp2_with fail
         refine T.mono ?_
         rintro e w4 ⟨v4,rfl,n4,B4⟩
         rw [HV.out] at n4
         have N4:Hid (Big.NatV w4 v4 (dvA s 0 (min (j+9) s.size))/\Bl w w4):=⟨n4,N3.out.2.2.trans (B4.mono N3.out.2.2.size)⟩
         clear n4 B4 T N3 HV FO
         go_wp2
         go_roundw
         case rel=>exact ⟨j+9,by go_num,by omega,N4⟩
         case measure=>simp [intOf];omega
  . have HI:Hid (Big.NatV wr u3 (dvA s 0 s.size)/\Bl w wr):=by
     have h:=HI.out
     rw [Nat.min_eq_right (by omega)] at h
     exact h
    go_wp2
    go_ret
    exact ⟨_,rfl,HI.out.1,HI.out.2⟩
end Go.Proofs.YtejgpbhionadbaaGreatDoor
