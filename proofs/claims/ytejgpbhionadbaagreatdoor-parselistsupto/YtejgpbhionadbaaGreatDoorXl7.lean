/-
  Holds: UEwR UCo0.
-/
import Derived.Laws.BitsAllLaws
import Derived.Test.YtejgpbhionadbaaGreatDoorChecked
import Derived.Lib.ItoaNum
import Derived.Laws.Externs
import Derived.WalkKit
import Derived.WalkSpells
import Derived.WalkLawsBesides
import Derived.Lib.Mul64
import Derived.Lib.TrailingZeros
import Derived.Deep.OwnRows
import Derived.Laws.CopyOwn
import Derived.BigQuiet
import Derived.Deep.RegionHeld3
import Derived.Deep.LoopGhost
import Derived.Deep.AppendLies
import Derived.Deep.DeepCutAuto
import Derived.Stop.Asserts
import Derived.RowKitTokens
import Derived.Lib.Strings
import Derived.Lib.BufferWrite
import Derived.Lib.ConvBytes
import Derived.Test.YtejgpbhionadbaaGreatDoorXl4
set_option maxRecDepth 100000
set_option maxHeartbeats 4000000
namespace Go.Proofs.YtejgpbhionadbaaGreatDoor
open Go.RowKit
theorem pE {b m:Nat}(hb:b<=16) (hm:m<=2400):Fits 1000 (b ^ m):=by
 refine (dZ (s:=4 * m) (by omega)).le ?_
 rw [Nat.pow_mul]
 exact Nat.pow_le_pow_left hb m
theorem rB (b n:Nat) (h1:2<=b) (h2:b<=16) (hn:n<=2400) (w:World) :
 Calls Tryz.prog 174 #[vU (b:Int),vI (n:Int)] w fun e w'=>∃ v,e=.returned v/\Big.NatV w' v (b ^ n)/\Bl w w':=by
 have S1:=fun W=>bD 1 (by unfold B;decide) W
 have S2:=fun W=>bD b (by unfold B;omega) W
 have HB:Hid (2<=b/\b<=16/\n<=2400):=⟨h1,h2,hn⟩
 clear h1 h2
 go_enter Tryz.func174,Tryz.ntmps174
 go_wp2_with fail
 refine (S1 _).mono ?_
 rintro e w1 ⟨v1,rfl,n1,b1⟩
 have N1:Hid (Big.NatV w1 v1 1/\Bl w w1):=⟨n1,b1⟩
 clear n1 b1
 go_wp2_with fail
 refine (S2 _).mono ?_
 rintro e w2 ⟨v2,rfl,n2,b2⟩
 have N2:Hid (Big.NatV w2 v1 1/\Big.NatV w2 v2 b/\Bl w w2):=⟨N1.out.1.below b2,n2,N1.out.2.trans (b2.mono N1.out.2.size)⟩
 clear n2 b2 N1 S1 S2
 go_wp2
 go_loopw [1,5,6] (fun nv ov pv wr=>∃ (m i j:Nat),nv=vI (m:Int)/\m<=2400/\Hid (Big.NatV wr ov (b ^ i)/\Big.NatV wr pv (b ^ j)/\Bl w wr/\i+j * m=n/\1<=j)) (fun nv _ _ _=>(intOf nv).toNat)
 case atStart=>exact ⟨n,0,1,rfl,hn,by rw [Nat.pow_zero,Nat.pow_one];exact ⟨N2.out.1,N2.out.2.1,N2.out.2.2,by rw [Nat.zero_add,Nat.one_mul],Nat.le_refl _⟩⟩
 case round =>
  clear N2
  obtain ⟨m,i,j,rfl,hm,HI⟩:=hrel
  by_cases m0:0<m
  . obtain ⟨h,hh⟩:∃ h,h=m / 2:=⟨_,rfl⟩
    have jm:j<=j * m:=Nat.le_mul_of_pos_right j m0
    have e2:(m:Int) / 2=(h:Int):=by omega
    have e3:(m:Int).tdiv 2=(h:Int):=by rw [Int.tdiv_eq_ediv_of_nonneg (by omega)];exact e2
    have hb64:h<=2400:=by omega
    have hlt:h<m:=by omega
    have FX:Hid (Fits 1000 (b ^ i)/\Fits 1000 (b ^ j)):=⟨pE HB.out.2.1 (by have:=HI.out.2.2.2.1;have:=HB.out;omega),pE HB.out.2.1 (by have:=HI.out.2.2.2.1;have:=HB.out;omega)⟩
    by_cases odd:m % 2=1
    . have e1:(m:Int) % 2=1:=by omega
      have e4:(m:Int).tmod 2=1:=by rw [Int.tmod_eq_emod_of_nonneg (by omega)];exact e1
      have HS:Hid ((i+j)+2 * (j * h)=n):=by
       have a:=HI.out.2.2.2.1
       have c:m=2 * h+1:=by omega
       rw [c,Nat.mul_add,Nat.mul_one,Nat.mul_left_comm] at a
       show _=_
       omega
      have T1:=eJ HI.out.1 HI.out.2.1 FX.out.1 FX.out.2
      rw [<- Nat.pow_add] at T1
      by_cases h0:0<h
      . clear odd hh jm
        go_wp2_with fail
        refine T1.mono ?_
        rintro e w3 ⟨v3,rfl,n3,b3⟩
        have N3:Hid (Big.NatV w3 v3 (b ^ (i+j))/\Big.NatV w3 u6 (b ^ j)/\Bl w w3):=⟨n3,HI.out.2.1.below b3,HI.out.2.2.1.trans (b3.mono HI.out.2.2.1.size)⟩
        clear n3 b3 T1
        have T2:=eJ N3.out.2.1 N3.out.2.1 FX.out.2 FX.out.2
        rw [<- Nat.pow_add] at T2
        go_wp2_with fail
        refine T2.mono ?_
        rintro e w4 ⟨v4,rfl,n4,b4⟩
        have N4:Hid (Big.NatV w4 v3 (b ^ (i+j))/\Big.NatV w4 v4 (b ^ (j+j))/\Bl w w4):=⟨N3.out.1.below b4,n4,N3.out.2.2.trans (b4.mono N3.out.2.2.size)⟩
        clear n4 b4 T2
        go_wp2
        go_roundw
        case rel=>exact ⟨h,i+j,j+j,rfl,hb64,N4.out.1,N4.out.2.1,N4.out.2.2,by have:=HS.out;rw [Nat.add_mul];omega,by have:=HI.out.2.2.2.2;omega⟩
        case measure=>simp [intOf];omega
      . have h00:h=0:=by omega
        subst h00
        clear odd hh jm
        go_wp2_with fail
        refine T1.mono ?_
        rintro e w3 ⟨v3,rfl,n3,b3⟩
        have N3:Hid (Big.NatV w3 v3 (b ^ (i+j))/\Big.NatV w3 u6 (b ^ j)/\Bl w w3):=⟨n3,HI.out.2.1.below b3,HI.out.2.2.1.trans (b3.mono HI.out.2.2.1.size)⟩
        clear n3 b3 T1
        go_wp2
        go_roundw
        case rel=>exact ⟨0,i+j,j,rfl,by omega,N3.out.1,N3.out.2.1,N3.out.2.2,by have:=HS.out;rw [Nat.mul_zero] at this ⊢;omega,HI.out.2.2.2.2⟩
        case measure=>simp [intOf];omega
    . have e1:(m:Int) % 2=0:=by omega
      have e4:(m:Int).tmod 2=0:=by rw [Int.tmod_eq_emod_of_nonneg (by omega)];exact e1
      have h0:0<h:=by omega
      have HS:Hid (i+2 * (j * h)=n):=by
       have a:=HI.out.2.2.2.1
       have c:m=2 * h:=by omega
       rw [c,Nat.mul_left_comm] at a
       exact a
      have T2:=eJ HI.out.2.1 HI.out.2.1 FX.out.2 FX.out.2
      rw [<- Nat.pow_add] at T2
      clear odd hh jm
      go_wp2_with fail
      refine T2.mono ?_
      rintro e w4 ⟨v4,rfl,n4,b4⟩
      have N4:Hid (Big.NatV w4 u5 (b ^ i)/\Big.NatV w4 v4 (b ^ (j+j))/\Bl w w4):=⟨HI.out.1.below b4,n4,HI.out.2.2.1.trans (b4.mono HI.out.2.2.1.size)⟩
      clear n4 b4 T2
      go_wp2
      go_roundw
      case rel=>exact ⟨h,i,j+j,rfl,hb64,N4.out.1,N4.out.2.1,N4.out.2.2,by have:=HS.out;rw [Nat.add_mul];omega,by have:=HI.out.2.2.2.2;omega⟩
      case measure=>simp [intOf];omega
  . obtain rfl:m=0:=by omega
    have hin:i=n:=by have:=HI.out.2.2.2.1;rw [Nat.mul_zero] at this;omega
    subst hin
    go_wp2
    go_ret
    exact ⟨_,rfl,HI.out.1,HI.out.2.2.1⟩
theorem dA {s:Int}{g n f T:Nat}{L:Int}(hz:Fz s g n f T L):n=T * 2 ^ f/\n<g/\2 * g<=18446744073709551616/\0<g:=by
 rcases hz with ⟨_,rfl,rfl,rfl,rfl,_⟩ | ⟨_,rfl,rfl,rfl,rfl,_⟩ <;> decide
theorem aEQ {s:Int}{g n f T:Nat}{L:Int}(hz:Fz s g n f T L) {m:Nat}(hm:m<n):mt f m<9007199254740992 /\ -1074<=xp f L m/\xp f L m<=971:=by
 have e23:(2:Nat) ^ 23=8388608:=by decide
 have e52:(2:Nat) ^ 52=4503599627370496:=by decide
 unfold mt xp
 rcases hz with ⟨_,_,rfl,rfl,_,rfl⟩ | ⟨_,_,rfl,rfl,_,rfl⟩
 . rw [e23]
   split <;> omega
 . rw [e52]
   split <;> omega
theorem aIL {n d N D m:Nat}{x:Int}(h:Frc N D m x) (D0:0<D):(vL n d 0 m x ↔ n * D<N * d)/\(vE n d 0 m x ↔ n * D=N * d):=by
 obtain ⟨h,_⟩:=h
 obtain ⟨K,k0,k1,e⟩:=h
 have p:0<2 ^ (0 - K).toNat:=Nat.two_pow_pos _
 have e':N * 2 ^ (0 - K).toNat=D * ev K m x:=e
 have key:∀ R:Nat -> Nat -> Prop,(∀ a b c,0<c -> (R (a * c) (b * c) ↔ R a b)) -> (R (n * 2 ^ (0 - K).toNat) (d * ev K m x) ↔ R (n * D) (N * d)):=by
  intro R hR
  rw [<- hR (n * 2 ^ (0 - K).toNat) (d * ev K m x) D D0,<- hR (n * D) (N * d) _ p]
  have a:n * 2 ^ (0 - K).toNat * D=n * D * 2 ^ (0 - K).toNat:=Nat.mul_right_comm _ _ _
  have b:d * ev K m x * D=N * d * 2 ^ (0 - K).toNat:=by
   rw [Nat.mul_assoc,Nat.mul_comm (ev K m x) D,<- e',Nat.mul_comm N d,Nat.mul_assoc]
  rw [a,b]
 refine ⟨⟨fun q=>?_,fun q=>?_⟩,⟨fun q=>?_,fun q=>?_⟩⟩
 . exact (key (·<·) fun a b c c0=>Nat.mul_lt_mul_right c0).mp (q.at K k0 k1)
 . exact ⟨K,k0,k1,(key (·<·) fun a b c c0=>Nat.mul_lt_mul_right c0).mpr q⟩
 . exact (key (·=·) fun a b c c0=>Nat.mul_left_inj (by omega)).mp (q.at K k0 k1)
 . exact ⟨K,k0,k1,(key (·=·) fun a b c c0=>Nat.mul_left_inj (by omega)).mpr q⟩
end Go.Proofs.YtejgpbhionadbaaGreatDoor
