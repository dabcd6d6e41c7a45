/-
  Holds: UEx5 UCp5.
-/
import Derived.Laws.BitsAllLaws
import Derived.Test.YteeobndfnkeldaaGreatDoorChecked
import Derived.Lib.ItoaNum
import Derived.Laws.Externs
import Derived.WalkKit
import Derived.WalkSpells
import Derived.WalkLawsBesides
import Derived.Lib.Mul64
import Derived.Lib.TrailingZeros
import Derived.Deep.OwnRows
import Derived.Laws.CopyOwn
import Derived.BigQuiet
import Derived.Deep.RegionHeld3
import Derived.Deep.LoopGhost
import Derived.Deep.AppendLies
import Derived.Deep.DeepCutAuto
import Derived.Stop.Asserts
import Derived.RowKitTokens
import Derived.Lib.Strings
import Derived.Lib.BufferWrite
import Derived.Lib.ConvBytes
import Derived.Test.YteeobndfnkeldaaGreatDoorXe1
set_option maxRecDepth 100000
set_option maxHeartbeats 4000000
namespace Go.Proofs.YteeobndfnkeldaaGreatDoor
open Go.RowKit
def dgt (s:ByteArray) (i:Nat):Nat:=if h:i<s.size then (s[i]'h).toNat else 48
theorem dgt_lt {s:ByteArray}{i:Nat}(h:i<s.size):dgt s i=(s[i]'h).toNat:=by unfold dgt;rw [dif_pos h]
def inR (p:Int) (z:Nat):Prop:=(z:Int) - 1099511627776≤p∧p≤1099511627776+(z:Int)
theorem rmake_in {t:ByteArray}{p:Int}(hl:t.size≤801) (hd:DG t) {z:Nat}(hz:z<t.size) (hz1:∀ i,i<z → dgt t i=48) (hz2:dgt t z ≠ 48) {u:ByteArray}(hu:t.extract z t.size=u) (hl8:u.size≤800)
 {m:Nat} (hm:m≤u.size) (m0:0<m) (h1:∀ i,m≤i → i<u.size → dgt u i=48) (h2:dgt u (m - 1) ≠ 48) (hp0:-1099511627776≤p) (hp9:p≤2199023255552) (hr:inR p z) (w:World) :
 Cb 89 #[.string t,vI p,.bool false] w (.tuple #[dcV (u.extract 0 m) (p - (z:Int)) false,vI 0]):=by
 have H1:Hid (∀ i,m≤i → i<u.size → dgt u i=48):=h1
 have H2:Hid (dgt u (m - 1) ≠ 48):=h2
 have HZ2:Hid (dgt t z ≠ 48):=hz2
 have HR:Hid (inR p z):=hr
 have uz:u.size=t.size - z:=by rw [← hu];exact ext_size (by omega)
 clear h1 h2 hz2 hr
 unfold dcV
 have D:=fun W=>rdig_yes t (by omega) hd W
 have HZ:Hid (∀ i,i<z → dgt t i=48):=hz1
 go_enter Tryz.func89,Tryz.ntmps89
 go_wp2_with fail
 refine (D _).mono ?_
 rintro e w0 ⟨rfl,rfl⟩
 go_wp2
 go_loop [8] (fun iv=>∃ k:Nat,iv=vI (k:Int)∧k≤z) (fun iv=>z - (intOf iv).toNat)
 case atStart=>exact ⟨0,rfl,Nat.zero_le _⟩
 case round =>
  obtain ⟨k,rfl,hk⟩:=hrel
  by_cases c0:k<z
  · have hks:k<t.size:=by omega
    have x0:((((t[k]'hks).toNat:Nat):Int) == 48)=true:=beq_iff_eq.mpr (by have:=HZ.out k c0;rw [dgt_lt hks] at this;omega)
    have i0:(k:Int)<(t.size:Int):=by omega
    have i1:(0:Int)≤(k:Int):=by omega
    have wk:IntKind.i64.wrap ((k:Int)+1)=(k:Int)+1:=by
     unfold IntKind.wrap
     simp [IntKind.bits,IntKind.signed]
     omega
    go_wp2
    go_round
    case rel=>exact ⟨k+1,by go_num,by omega⟩
    case measure=>simp [intOf] <;> omega
  · obtain rfl:z=k:=by omega
    have x0:((((t[z]'hz).toNat:Nat):Int) == 48)=false:=beq_eq_false_iff_ne.mpr (by have:=HZ2.out;rw [dgt_lt hz] at this;omega)
    have i0:(z:Int)<(t.size:Int):=by omega
    have i1:(0:Int)≤(z:Int):=by omega
    have i2:(z:Int)≤(t.size:Int):=by omega
    have l8:¬ (800:Int)<(u.size:Int):=by omega
    have wz:IntKind.i64.wrap (1099511627776+(z:Int))=1099511627776+(z:Int):=by
     unfold IntKind.wrap
     simp [IntKind.bits,IntKind.signed]
     omega
    have wq:IntKind.i64.wrap (p - (z:Int))=p - (z:Int):=by
     unfold IntKind.wrap
     simp [IntKind.bits,IntKind.signed]
     omega
    go_wp2
    go_loop [0] (fun v=>∃ k,v=.string (u.extract 0 k)∧m≤k∧k≤u.size) (fun v=>textLen v)
    case atStart=>exact ⟨u.size,by rw [ext_zero],hm,Nat.le_refl _⟩
    case round =>
     obtain ⟨k,rfl,hk1,hk2⟩:=hrel
     have sz:=pre_size hk2
     by_cases c1:m<k
     · obtain ⟨j,rfl⟩:∃ j,k=j+1:=⟨k - 1,by omega⟩
       have e0:=pre_get (s:=u) hk2 (show j<j+1 by omega)
       have e9:=H1.out j (by omega) (by omega)
       rw [dgt_lt (by omega)] at e9
       rw [e9] at e0
       clear e9
       have cut:=pre_cut (s:=u) (k:=j)
       have HC:Hid ((u.extract 0 j).size=j):=pre_size (by omega)
       obtain ⟨T2,hT2⟩:∃ T,u.extract 0 j=T:=⟨_,rfl⟩
       obtain ⟨T,hT⟩:∃ T,u.extract 0 (j+1)=T:=⟨_,rfl⟩
       rw [hT2] at cut
       rw [hT] at sz cut e0 ⊢
       have HT:Hid (u.extract 0 j=T2):=hT2
       have HSZ:Hid (T.size=j+1):=sz
       have hpos:0<T.size:=by omega
       have hbig:T.size≤9223372036854775807:=by omega
       have ix:((T.size:Int) - 1).toNat=j:=by omega
       have ix2:(T.size:Int) - 1=(j:Int):=by omega
       have hj:j<T.size:=by omega
       have e1:=e0 hj
       have hTj:(T.size:Int)=(j:Int)+1:=by omega
       clear hT hT2 sz
       go_wp2
       go_round
       case rel=>exact ⟨j,by rw [HT.out],by omega,by omega⟩
       case measure =>
        show T2.size<T.size
        have a:=HC.out
        rw [HT.out] at a
        have b:=HSZ.out
        omega
     · obtain rfl:k=m:=by omega
       have e0:=pre_get (s:=u) hk2 (show k - 1<k by omega)
       have e9:=H2.out
       rw [dgt_lt (by omega)] at e9
       have cE:(((((u[k - 1]'(by omega)).toNat:Nat):Int)) == 48)=false:=beq_eq_false_iff_ne.mpr (by omega)
       obtain ⟨zc,hzc⟩:∃ zc,zc=(u[k - 1]'(by omega)).toNat:=⟨_,rfl⟩
       rw [← hzc] at e0 cE
       clear e9 hzc
       obtain ⟨T,hT⟩:∃ T,u.extract 0 k=T:=⟨_,rfl⟩
       rw [hT] at sz e0 ⊢
       have hj:k - 1<T.size:=by omega
       have e1:=e0 hj
       have ix:((T.size:Int) - 1).toNat=k - 1:=by omega
       have ix3:((k:Int) - 1).toNat=k - 1:=by omega
       have hTj:(T.size:Int)=(k:Int):=by omega
       have hpos:0<T.size:=by omega
       have tz:((T.size:Int) == 0)=false:=beq_eq_false_iff_ne.mpr (by omega)
       have HTT:Hid (u.extract 0 k=T):=hT
       clear hT
       have p1:¬ p < -1099511627776:=by omega
       have p2:¬ 1099511627776+(z:Int)<p:=by have:=HR.out;unfold inR at this;omega
       have p3:¬ p - (z:Int) < -1099511627776:=by have:=HR.out;unfold inR at this;omega
       go_wp2
       refine bodyPost_ret (v:=.tuple #[.agg #[.string T,vI (p - (z:Int)),.bool false],vI 0]) (by simp [results,Tryz.results89,go_sem]) rfl ⟨by rw [HTT.out],?_⟩
       exact bz _ _
theorem dvalid_yes {s:ByteArray}{p:Int}{c:Bool}(h:VD s p c) (w:World) :
 Cb 147 #[dcV s p c] w .nilIface:=by
 unfold dcV
 rcases h with ⟨h1,rfl,rfl⟩ | h
 · obtain rfl:=size_zero h1
   go_enter Tryz.func147,Tryz.ntmps147
   go_wp2
   go_ret
   exact ⟨rfl,bz _ _⟩
 · have p1:=h.pos
   have hE:=empty_false p1
   have hl1:s.size - 1<s.size:=by omega
   have AD:=fun W=>areDig_yes s (by have:=h.len;omega) h.dg W
   have l1:=h.len
   have f1:((((s[0]'p1).toNat:Nat):Int) == 48)=false:=beq_eq_false_iff_ne.mpr (by have:=h.first;omega)
   have n1:((s.size:Int) == 0)=false:=beq_eq_false_iff_ne.mpr (by omega)
   have p2:=h.lo
   have p3:=h.hi
   have p2':¬ p < -1099511627776:=by omega
   have p3':¬ 1099511627776<p:=by omega
   have l2:¬ (800:Int)<(s.size:Int):=by omega
   have ix:((s.size:Int) - 1).toNat=s.size - 1:=by omega
   by_cases g1:(s[s.size - 1]'hl1).toNat=48
   · obtain rfl:c=true:=h.last.resolve_left (fun q=>q g1)
     have g2:((((s[s.size - 1]'hl1).toNat:Nat):Int) == 48)=true:=beq_iff_eq.mpr (by omega)
     clear h g1
     go_enter Tryz.func147,Tryz.ntmps147
     go_wp2_with fail
     refine (AD _).mono ?_
     rintro e w1 ⟨rfl,rfl⟩
     go_wp2
     go_ret
     exact ⟨rfl,bz _ _⟩
   · have g2:((((s[s.size - 1]'hl1).toNat:Nat):Int) == 48)=false:=beq_eq_false_iff_ne.mpr (by omega)
     clear h g1
     go_enter Tryz.func147,Tryz.ntmps147
     go_wp2_with fail
     refine (AD _).mono ?_
     rintro e w1 ⟨rfl,rfl⟩
     go_wp2
     go_ret
     exact ⟨rfl,bz _ _⟩
end Go.Proofs.YteeobndfnkeldaaGreatDoor
