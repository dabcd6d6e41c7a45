/-
  Holds: UEwR UCo0.
-/
import Derived.Laws.BitsAllLaws
import Derived.Test.YteeobndfnkeldaaGreatDoorChecked
import Derived.Lib.ItoaNum
import Derived.Laws.Externs
import Derived.WalkKit
import Derived.WalkSpells
import Derived.WalkLawsBesides
import Derived.Lib.Mul64
import Derived.Lib.TrailingZeros
import Derived.Deep.OwnRows
import Derived.Laws.CopyOwn
import Derived.BigQuiet
import Derived.Deep.RegionHeld3
import Derived.Deep.LoopGhost
import Derived.Deep.AppendLies
import Derived.Deep.DeepCutAuto
import Derived.Stop.Asserts
import Derived.RowKitTokens
import Derived.Lib.Strings
import Derived.Lib.BufferWrite
import Derived.Lib.ConvBytes
import Derived.Test.YteeobndfnkeldaaGreatDoorXn4
set_option maxRecDepth 100000
set_option maxHeartbeats 4000000
namespace Go.Proofs.YteeobndfnkeldaaGreatDoor
open Go.RowKit
theorem fits_far {b m:Nat}(hb:b≤16) (hm:m≤2400):Fits 1000 (b ^ m):=by
 refine (two_fits (s:=4 * m) (by omega)).le ?_
 rw [Nat.pow_mul]
 exact Nat.pow_le_pow_left hb m
theorem raised_far (b n:Nat) (h1:2≤b) (h2:b≤16) (hn:n≤2400) (w:World) :
 Calls Tryz.prog 87 #[vU (b:Int),vI (n:Int)] w fun e w'=>∃ v,e=.returned v∧Big.NatV w' v (b ^ n)∧Bl w w':=by
 have S1:=fun W=>small_nat 1 (by unfold B;decide) W
 have S2:=fun W=>small_nat b (by unfold B;omega) W
 have HB:Hid (2≤b∧b≤16∧n≤2400):=⟨h1,h2,hn⟩
 clear h1 h2
 go_enter Tryz.func87,Tryz.ntmps87
 go_wp2_with fail
 refine (S1 _).mono ?_
 rintro e w1 ⟨v1,rfl,n1,b1⟩
 have N1:Hid (Big.NatV w1 v1 1∧Bl w w1):=⟨n1,b1⟩
 clear n1 b1
 go_wp2_with fail
 refine (S2 _).mono ?_
 rintro e w2 ⟨v2,rfl,n2,b2⟩
 have N2:Hid (Big.NatV w2 v1 1∧Big.NatV w2 v2 b∧Bl w w2):=⟨N1.out.1.below b2,n2,N1.out.2.trans (b2.mono N1.out.2.size)⟩
 clear n2 b2 N1 S1 S2
 go_wp2
 go_loopw [1,5,6] (fun nv ov pv wr=>∃ (m i j:Nat),nv=vI (m:Int)∧m≤2400∧Hid (Big.NatV wr ov (b ^ i)∧Big.NatV wr pv (b ^ j)∧Bl w wr∧i+j * m=n∧1≤j)) (fun nv _ _ _=>(intOf nv).toNat)
 case atStart=>exact ⟨n,0,1,rfl,hn,by rw [Nat.pow_zero,Nat.pow_one];exact ⟨N2.out.1,N2.out.2.1,N2.out.2.2,by rw [Nat.zero_add,Nat.one_mul],Nat.le_refl _⟩⟩
 case round =>
  clear N2
  obtain ⟨m,i,j,rfl,hm,HI⟩:=hrel
  by_cases m0:0<m
  · obtain ⟨h,hh⟩:∃ h,h=m / 2:=⟨_,rfl⟩
    have jm:j≤j * m:=Nat.le_mul_of_pos_right j m0
    have e2:(m:Int) / 2=(h:Int):=by omega
    have e3:(m:Int).tdiv 2=(h:Int):=by rw [Int.tdiv_eq_ediv_of_nonneg (by omega)];exact e2
    have hb64:h≤2400:=by omega
    have hlt:h<m:=by omega
    have FX:Hid (Fits 1000 (b ^ i)∧Fits 1000 (b ^ j)):=⟨fits_far HB.out.2.1 (by have:=HI.out.2.2.2.1;have:=HB.out;omega),fits_far HB.out.2.1 (by have:=HI.out.2.2.2.1;have:=HB.out;omega)⟩
    by_cases odd:m % 2=1
    · have e1:(m:Int) % 2=1:=by omega
      have e4:(m:Int).tmod 2=1:=by rw [Int.tmod_eq_emod_of_nonneg (by omega)];exact e1
      have HS:Hid ((i+j)+2 * (j * h)=n):=by
       have a:=HI.out.2.2.2.1
       have c:m=2 * h+1:=by omega
       rw [c,Nat.mul_add,Nat.mul_one,Nat.mul_left_comm] at a
       show _=_
       omega
      have T1:=times_nat HI.out.1 HI.out.2.1 FX.out.1 FX.out.2
      rw [← Nat.pow_add] at T1
      by_cases h0:0<h
      · clear odd hh jm
        go_wp2_with fail
        refine T1.mono ?_
        rintro e w3 ⟨v3,rfl,n3,b3⟩
        have N3:Hid (Big.NatV w3 v3 (b ^ (i+j))∧Big.NatV w3 u6 (b ^ j)∧Bl w w3):=⟨n3,HI.out.2.1.below b3,HI.out.2.2.1.trans (b3.mono HI.out.2.2.1.size)⟩
        clear n3 b3 T1
        have T2:=times_nat N3.out.2.1 N3.out.2.1 FX.out.2 FX.out.2
        rw [← Nat.pow_add] at T2
        go_wp2_with fail
        refine T2.mono ?_
        rintro e w4 ⟨v4,rfl,n4,b4⟩
        have N4:Hid (Big.NatV w4 v3 (b ^ (i+j))∧Big.NatV w4 v4 (b ^ (j+j))∧Bl w w4):=⟨N3.out.1.below b4,n4,N3.out.2.2.trans (b4.mono N3.out.2.2.size)⟩
        clear n4 b4 T2
        go_wp2
        go_roundw
        case rel=>exact ⟨h,i+j,j+j,rfl,hb64,N4.out.1,N4.out.2.1,N4.out.2.2,by have:=HS.out;rw [Nat.add_mul];omega,by have:=HI.out.2.2.2.2;omega⟩
        case measure=>simp [intOf];omega
      · have h00:h=0:=by omega
        subst h00
        clear odd hh jm
        go_wp2_with fail
        refine T1.mono ?_
        rintro e w3 ⟨v3,rfl,n3,b3⟩
        have N3:Hid (Big.NatV w3 v3 (b ^ (i+j))∧Big.NatV w3 u6 (b ^ j)∧Bl w w3):=⟨n3,HI.out.2.1.below b3,HI.out.2.2.1.trans (b3.mono HI.out.2.2.1.size)⟩
        clear n3 b3 T1
        go_wp2
        go_roundw
        case rel=>exact ⟨0,i+j,j,rfl,by omega,N3.out.1,N3.out.2.1,N3.out.2.2,by have:=HS.out;rw [Nat.mul_zero] at this ⊢;omega,HI.out.2.2.2.2⟩
        case measure=>simp [intOf];omega
    · have e1:(m:Int) % 2=0:=by omega
      have e4:(m:Int).tmod 2=0:=by rw [Int.tmod_eq_emod_of_nonneg (by omega)];exact e1
      have h0:0<h:=by omega
      have HS:Hid (i+2 * (j * h)=n):=by
       have a:=HI.out.2.2.2.1
       have c:m=2 * h:=by omega
       rw [c,Nat.mul_left_comm] at a
       exact a
      have T2:=times_nat HI.out.2.1 HI.out.2.1 FX.out.2 FX.out.2
      rw [← Nat.pow_add] at T2
      clear odd hh jm
      go_wp2_with fail
      refine T2.mono ?_
      rintro e w4 ⟨v4,rfl,n4,b4⟩
      have N4:Hid (Big.NatV w4 u5 (b ^ i)∧Big.NatV w4 v4 (b ^ (j+j))∧Bl w w4):=⟨HI.out.1.below b4,n4,HI.out.2.2.1.trans (b4.mono HI.out.2.2.1.size)⟩
      clear n4 b4 T2
      go_wp2
      go_roundw
      case rel=>exact ⟨h,i,j+j,rfl,hb64,N4.out.1,N4.out.2.1,N4.out.2.2,by have:=HS.out;rw [Nat.add_mul];omega,by have:=HI.out.2.2.2.2;omega⟩
      case measure=>simp [intOf];omega
  · obtain rfl:m=0:=by omega
    have hin:i=n:=by have:=HI.out.2.2.2.1;rw [Nat.mul_zero] at this;omega
    subst hin
    go_wp2
    go_ret
    exact ⟨_,rfl,HI.out.1,HI.out.2.2.1⟩
theorem rcheck_big {b:Nat}(h:4294967296≤b) (w:World):Cs 73 #[vU (b:Int),vI 32] w (vI 1):=by
 have H:=fun W=>rsize_32 W
 have q:((b:Int) / 4294967296 != 0)=true:=by simp;omega
 go_enter Tryz.func73,Tryz.ntmps73
 go_wp2_with fail
 refine (H _).mono ?_
 rintro e w ⟨rfl,rfl⟩
 go_wp2
 go_ret
 exact ⟨rfl,rfl⟩
theorem fz_parts {s:Int}{g n f T:Nat}{L:Int}(hz:Fz s g n f T L):n=T * 2 ^ f∧n<g∧2 * g≤18446744073709551616∧0<g:=by
 rcases hz with ⟨_,rfl,rfl,rfl,rfl,_⟩ | ⟨_,rfl,rfl,rfl,rfl,_⟩ <;> decide
theorem parts_lim {s:Int}{g n f T:Nat}{L:Int}(hz:Fz s g n f T L) {m:Nat}(hm:m<n):mt f m<9007199254740992 ∧ -1074≤xp f L m∧xp f L m≤971:=by
 have e23:(2:Nat) ^ 23=8388608:=by decide
 have e52:(2:Nat) ^ 52=4503599627370496:=by decide
 unfold mt xp
 rcases hz with ⟨_,_,rfl,rfl,_,rfl⟩ | ⟨_,_,rfl,rfl,_,rfl⟩
 · rw [e23]
   split <;> omega
 · rw [e52]
   split <;> omega
theorem half14 {s:Int}{g n f T:Nat}{L:Int}(hz:Fz s g n f T L) {b:Nat}(hm:b<n) (W:World):Calls Tryz.prog 40 #[vU (b:Int),vI s] W fun x w'=>∃ (v1 v2:Value) (N D:Nat),x=.returned (.tuple #[v1,v2,vI 0])∧NatV w' v1 N∧NatV w' v2 D∧Frc N D (hM f b) (hX f L b)∧Bl W w':=by
 obtain ⟨_,ng',hg,g0⟩:=fz_parts hz
 have e1:mg g b=b:=Nat.mod_eq_of_lt (by omega)
 have e2:ng g b=false:=by unfold ng;rw [decide_eq_false_iff_not];omega
 have H:=fun W=>rfin_yes hz (b:=b) (by omega) (by rw [e1];exact hm) W
 rw [e1,e2] at H
 obtain ⟨p1,p2,p3⟩:=parts_lim hz hm
 rcases cl_cases n b with ⟨q,k⟩ | ⟨_,_,k⟩ | ⟨_,q,k⟩ | ⟨q,k⟩
 · rw [k] at H
   unfold uM uE at H
   rw [k,if_neg (by decide),if_neg (by decide),show ((0:Nat):Int)=0 from rfl] at H
   have R:=rhalf_zero (w:=W) hz H
   have e3:hM f b=1∧hX f L b=L - 1:=by unfold hM hX;rw [q,mt_nought,xp_nought];exact ⟨rfl,rfl⟩
   rw [e3.1,e3.2]
   exact R
 · rw [k] at H
   unfold uM uE at H
   rw [k,if_pos rfl,if_pos rfl] at H
   exact rhalf_fine (w:=W) hz (by decide) (by omega) (by omega) (by omega) H
 · omega
 · omega
theorem of_nat {w:World}{v:Value}{X:Nat}(h:NatV w v X):(∃ ao n c,v=.slice ao n c)∧Fits 256 X∧Calls Tryz.prog 42 #[v] w fun e w'=>∃ v',e=.returned v'∧Big.NatV w' v' X∧Bl w w':=by
 obtain ⟨ao,n,c,b,o,f,rfl,S,t,rfl,l⟩:=h
 refine ⟨⟨_,_,_,rfl⟩,?_,rof_any S (by omega)⟩
 exact (Fits.word (V_lt S.ws n)).up (by omega)
theorem frc_cmp {n d N D m:Nat}{x:Int}(h:Frc N D m x) (D0:0<D):(vL n d 0 m x ↔ n * D<N * d)∧(vE n d 0 m x ↔ n * D=N * d):=by
 obtain ⟨h,_⟩:=h
 obtain ⟨K,k0,k1,e⟩:=h
 have p:0<2 ^ (0 - K).toNat:=Nat.two_pow_pos _
 have e':N * 2 ^ (0 - K).toNat=D * ev K m x:=e
 have key:∀ R:Nat → Nat → Prop,(∀ a b c,0<c → (R (a * c) (b * c) ↔ R a b)) → (R (n * 2 ^ (0 - K).toNat) (d * ev K m x) ↔ R (n * D) (N * d)):=by
  intro R hR
  rw [← hR (n * 2 ^ (0 - K).toNat) (d * ev K m x) D D0,← hR (n * D) (N * d) _ p]
  have a:n * 2 ^ (0 - K).toNat * D=n * D * 2 ^ (0 - K).toNat:=Nat.mul_right_comm _ _ _
  have b:d * ev K m x * D=N * d * 2 ^ (0 - K).toNat:=by
   rw [Nat.mul_assoc,Nat.mul_comm (ev K m x) D,← e',Nat.mul_comm N d,Nat.mul_assoc]
  rw [a,b]
 refine ⟨⟨fun q=>?_,fun q=>?_⟩,⟨fun q=>?_,fun q=>?_⟩⟩
 · exact (key (·<·) fun a b c c0=>Nat.mul_lt_mul_right c0).mp (q.at K k0 k1)
 · exact ⟨K,k0,k1,(key (·<·) fun a b c c0=>Nat.mul_lt_mul_right c0).mpr q⟩
 · exact (key (·=·) fun a b c c0=>Nat.mul_left_inj (by omega)).mp (q.at K k0 k1)
 · exact ⟨K,k0,k1,(key (·=·) fun a b c c0=>Nat.mul_left_inj (by omega)).mpr q⟩
end Go.Proofs.YteeobndfnkeldaaGreatDoor
