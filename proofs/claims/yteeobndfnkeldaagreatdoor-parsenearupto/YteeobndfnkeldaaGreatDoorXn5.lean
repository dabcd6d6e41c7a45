/-
  Holds: UEx5 UEx7 UCp5.
-/
import Derived.Laws.BitsAllLaws
import Derived.Test.YteeobndfnkeldaaGreatDoorChecked
import Derived.Lib.ItoaNum
import Derived.Laws.Externs
import Derived.WalkKit
import Derived.WalkSpells
import Derived.WalkLawsBesides
import Derived.Lib.Mul64
import Derived.Lib.TrailingZeros
import Derived.Deep.OwnRows
import Derived.Laws.CopyOwn
import Derived.BigQuiet
import Derived.Deep.RegionHeld3
import Derived.Deep.LoopGhost
import Derived.Deep.AppendLies
import Derived.Deep.DeepCutAuto
import Derived.Stop.Asserts
import Derived.RowKitTokens
import Derived.Lib.Strings
import Derived.Lib.BufferWrite
import Derived.Lib.ConvBytes
import Derived.Test.YteeobndfnkeldaaGreatDoorXn1
import Derived.Test.YteeobndfnkeldaaGreatDoorXn2
set_option maxRecDepth 100000
set_option maxHeartbeats 4000000
namespace Go.Proofs.YteeobndfnkeldaaGreatDoor
open Go.RowKit
def dgt (s:ByteArray) (i:Nat):Nat:=if h:i<s.size then (s[i]'h).toNat else 48
theorem dgt_lt {s:ByteArray}{i:Nat}(h:i<s.size):dgt s i=(s[i]'h).toNat:=by unfold dgt;rw [dif_pos h]
theorem not_vd {s:ByteArray}{p:Int}{c:Bool}(h:¬ VD s p c):(s.size=0∧(p ≠ 0 ∨ c=true)) ∨ 800<s.size ∨ (0<s.size∧s.size≤800∧¬ DG s) ∨ (∃ q:0<s.size,s.size≤800∧DG s∧(s[0]'q).toNat=48) ∨
 (∃ q:0<s.size,s.size≤800∧DG s∧(s[0]'q).toNat ≠ 48∧(((s[s.size - 1]'(by omega)).toNat=48∧c=false) ∨ (((s[s.size - 1]'(by omega)).toNat ≠ 48 ∨ c=true)∧(p < -1099511627776 ∨ 1099511627776<p)))):=by
 by_cases h0:s.size=0
 · left
   refine ⟨h0,?_⟩
   by_cases hp:p=0
   · right
     cases c
     · exact absurd (Or.inl ⟨h0,hp,rfl⟩) h
     · rfl
   · exact Or.inl hp
 · right
   by_cases h1:800<s.size
   · exact Or.inl h1
   · right
     by_cases h2:DG s
     · right
       have q:0<s.size:=by omega
       by_cases h3:(s[0]'q).toNat=48
       · exact Or.inl ⟨q,by omega,h2,h3⟩
       · right
         refine ⟨q,by omega,h2,h3,?_⟩
         by_cases h4:(s[s.size - 1]'(by omega)).toNat ≠ 48 ∨ c=true
         · right
           refine ⟨h4,?_⟩
           by_cases h5:p < -1099511627776
           · exact Or.inl h5
           · right
             by_cases h6:1099511627776<p
             · exact h6
             · exact absurd (Or.inr ⟨q,by omega,h2,h3,h4,by omega,by omega⟩) h
         · left
           refine ⟨Decidable.byContradiction fun z=>h4 (Or.inl z),?_⟩
           cases c
           · rfl
           · exact absurd (Or.inr rfl) h4
     · exact Or.inl ⟨by omega,by omega,h2⟩
theorem rdig_no (s:ByteArray) (hs:s.size≤9223372036854775807) (hd:¬ DG s) (w:World) :
 Cs 119 #[.string s] w (.bool false):=by
 have HN:Hid (¬ DG s):=hd
 clear hd
 go_enter Tryz.func119,Tryz.ntmps119
 go_wp2
 go_loop [3] (fun i=>∃ k:Nat,k≤s.size∧i=vI k∧Hid (∀ j (h:j<s.size),j<k → 48≤(s[j]'h).toNat∧(s[j]'h).toNat≤57)) (fun i=>s.size - (intOf i).toNat)
 case atStart=>exact ⟨0,Nat.zero_le _,rfl,fun j _ q=>absurd q (by omega)⟩
 case round =>
  obtain ⟨k,hk,rfl,HD⟩:=hrel
  by_cases hlt:k<s.size
  · by_cases v1:48≤(s[k]'hlt).toNat
    · have v1':¬ ((s[k]'hlt).toNat:Int)<48:=by omega
      by_cases v2:(s[k]'hlt).toNat≤57
      · have v2':¬ (57:Int)<((s[k]'hlt).toNat:Int):=by omega
        have HD2:Hid (∀ j (h:j<s.size),j<k+1 → 48≤(s[j]'h).toNat∧(s[j]'h).toNat≤57):=fun j h q=>by
         by_cases z:j=k
         · subst z;exact ⟨v1,v2⟩
         · exact HD.out j h (by omega)
        go_wp2
        go_round
        case rel=>exact ⟨k+1,by omega,by go_num,HD2⟩
        case measure=>simp [intOf];omega
      · have v2':(57:Int)<((s[k]'hlt).toNat:Int):=by omega
        go_wp2
        go_ret
        exact ⟨rfl,rfl⟩
    · have v1':((s[k]'hlt).toNat:Int)<48:=by omega
      go_wp2
      go_ret
      exact ⟨rfl,rfl⟩
  · exact absurd (fun j h=>HD.out j h (by omega)) HN.out
theorem rvald_no {s:ByteArray}{p:Int}{c:Bool}(hs:s.size≤9223372036854775807) (h:¬ VD s p c) (w:World) :
 Cb 72 #[dcV s p c] w (vI 1):=by
 unfold dcV
 rcases not_vd h with ⟨h1,h2⟩ | h1 | ⟨h0,h1,h2⟩ | ⟨h0,h1,h2,h3⟩ | ⟨h0,h1,h2,h3,h4⟩
 · obtain rfl:=size_zero h1
   clear h
   rcases h2 with h2 | rfl
   · have h2':(p == 0)=false:=beq_eq_false_iff_ne.mpr h2
     go_enter Tryz.func72,Tryz.ntmps72
     go_wp2
     go_ret
     exact ⟨rfl,bz _ _⟩
   · go_enter Tryz.func72,Tryz.ntmps72
     go_wp2
     all_goals
      go_ret
      exact ⟨rfl,bz _ _⟩
 · have hl1:s.size - 1<s.size:=by omega
   have hE:=empty_false (s:=s) (by omega)
   have n1:((s.size:Int) == 0)=false:=beq_eq_false_iff_ne.mpr (by omega)
   have l2:(800:Int)<(s.size:Int):=by omega
   clear h
   go_enter Tryz.func72,Tryz.ntmps72
   go_wp2
   go_ret
   exact ⟨rfl,bz _ _⟩
 · have hl1:s.size - 1<s.size:=by omega
   have hE:=empty_false (s:=s) (by omega)
   have n1:((s.size:Int) == 0)=false:=beq_eq_false_iff_ne.mpr (by omega)
   have l2:¬ (800:Int)<(s.size:Int):=by omega
   have AD:=fun W=>rdig_no s hs h2 W
   clear h h2
   go_enter Tryz.func72,Tryz.ntmps72
   go_wp2_with fail
   refine (AD _).mono ?_
   rintro e w1 ⟨rfl,rfl⟩
   go_wp2
   go_ret
   exact ⟨rfl,bz _ _⟩
 · have hl1:s.size - 1<s.size:=by omega
   have hE:=empty_false (s:=s) (by omega)
   have n1:((s.size:Int) == 0)=false:=beq_eq_false_iff_ne.mpr (by omega)
   have l2:¬ (800:Int)<(s.size:Int):=by omega
   have f1:((((s[0]'h0).toNat:Nat):Int) == 48)=true:=beq_iff_eq.mpr (by omega)
   have AD:=fun W=>rdig_yes s hs h2 W
   clear h h2 h3
   go_enter Tryz.func72,Tryz.ntmps72
   go_wp2_with fail
   refine (AD _).mono ?_
   rintro e w1 ⟨rfl,rfl⟩
   go_wp2
   go_ret
   exact ⟨rfl,bz _ _⟩
 · have hl1:s.size - 1<s.size:=by omega
   have hE:=empty_false (s:=s) (by omega)
   have n1:((s.size:Int) == 0)=false:=beq_eq_false_iff_ne.mpr (by omega)
   have l2:¬ (800:Int)<(s.size:Int):=by omega
   have f1:((((s[0]'h0).toNat:Nat):Int) == 48)=false:=beq_eq_false_iff_ne.mpr (by omega)
   have ix:((s.size:Int) - 1).toNat=s.size - 1:=by omega
   have AD:=fun W=>rdig_yes s hs h2 W
   clear h h2 h3
   rcases h4 with ⟨g1,rfl⟩ | ⟨g1,g3⟩
   · have g2:((((s[s.size - 1]'hl1).toNat:Nat):Int) == 48)=true:=beq_iff_eq.mpr (by omega)
     clear g1
     go_enter Tryz.func72,Tryz.ntmps72
     go_wp2_with fail
     refine (AD _).mono ?_
     rintro e w1 ⟨rfl,rfl⟩
     go_wp2
     go_ret
     exact ⟨rfl,bz _ _⟩
   · by_cases g4:(s[s.size - 1]'hl1).toNat=48
     · obtain rfl:c=true:=g1.resolve_left (fun q=>q g4)
       have g2:((((s[s.size - 1]'hl1).toNat:Nat):Int) == 48)=true:=beq_iff_eq.mpr (by omega)
       clear g1 g4
       rcases g3 with g3 | g3
       · go_enter Tryz.func72,Tryz.ntmps72
         go_wp2_with fail
         refine (AD _).mono ?_
         rintro e w1 ⟨rfl,rfl⟩
         go_wp2
         go_ret
         exact ⟨rfl,bz _ _⟩
       · have g5:¬ p < -1099511627776:=by omega
         go_enter Tryz.func72,Tryz.ntmps72
         go_wp2_with fail
         refine (AD _).mono ?_
         rintro e w1 ⟨rfl,rfl⟩
         go_wp2
         go_ret
         exact ⟨rfl,bz _ _⟩
     · have g2:((((s[s.size - 1]'hl1).toNat:Nat):Int) == 48)=false:=beq_eq_false_iff_ne.mpr (by omega)
       clear g1 g4
       rcases g3 with g3 | g3
       · go_enter Tryz.func72,Tryz.ntmps72
         go_wp2_with fail
         refine (AD _).mono ?_
         rintro e w1 ⟨rfl,rfl⟩
         go_wp2
         go_ret
         exact ⟨rfl,bz _ _⟩
       · have g5:¬ p < -1099511627776:=by omega
         go_enter Tryz.func72,Tryz.ntmps72
         go_wp2_with fail
         refine (AD _).mono ?_
         rintro e w1 ⟨rfl,rfl⟩
         go_wp2
         go_ret
         exact ⟨rfl,bz _ _⟩
theorem dvalid_yes {s:ByteArray}{p:Int}{c:Bool}(h:VD s p c) (w:World) :
 Cb 147 #[dcV s p c] w .nilIface:=by
 unfold dcV
 rcases h with ⟨h1,rfl,rfl⟩ | h
 · obtain rfl:=size_zero h1
   go_enter Tryz.func147,Tryz.ntmps147
   go_wp2
   go_ret
   exact ⟨rfl,bz _ _⟩
 · have p1:=h.pos
   have hE:=empty_false p1
   have hl1:s.size - 1<s.size:=by omega
   have AD:=fun W=>areDig_yes s (by have:=h.len;omega) h.dg W
   have l1:=h.len
   have f1:((((s[0]'p1).toNat:Nat):Int) == 48)=false:=beq_eq_false_iff_ne.mpr (by have:=h.first;omega)
   have n1:((s.size:Int) == 0)=false:=beq_eq_false_iff_ne.mpr (by omega)
   have p2:=h.lo
   have p3:=h.hi
   have p2':¬ p < -1099511627776:=by omega
   have p3':¬ 1099511627776<p:=by omega
   have l2:¬ (800:Int)<(s.size:Int):=by omega
   have ix:((s.size:Int) - 1).toNat=s.size - 1:=by omega
   by_cases g1:(s[s.size - 1]'hl1).toNat=48
   · obtain rfl:c=true:=h.last.resolve_left (fun q=>q g1)
     have g2:((((s[s.size - 1]'hl1).toNat:Nat):Int) == 48)=true:=beq_iff_eq.mpr (by omega)
     clear h g1
     go_enter Tryz.func147,Tryz.ntmps147
     go_wp2_with fail
     refine (AD _).mono ?_
     rintro e w1 ⟨rfl,rfl⟩
     go_wp2
     go_ret
     exact ⟨rfl,bz _ _⟩
   · have g2:((((s[s.size - 1]'hl1).toNat:Nat):Int) == 48)=false:=beq_eq_false_iff_ne.mpr (by omega)
     clear h g1
     go_enter Tryz.func147,Tryz.ntmps147
     go_wp2_with fail
     refine (AD _).mono ?_
     rintro e w1 ⟨rfl,rfl⟩
     go_wp2
     go_ret
     exact ⟨rfl,bz _ _⟩
end Go.Proofs.YteeobndfnkeldaaGreatDoor
