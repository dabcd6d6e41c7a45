/-
  Holds: UCo0 UEwH ULawENear.
-/
import Derived.Laws.BitsAllLaws
import Derived.Test.YtejgpbhionadbaaGreatDoorChecked
import Derived.Lib.ItoaNum
import Derived.Laws.Externs
import Derived.WalkKit
import Derived.WalkSpells
import Derived.WalkLawsBesides
import Derived.Lib.Mul64
import Derived.Lib.TrailingZeros
import Derived.Deep.OwnRows
import Derived.Laws.CopyOwn
import Derived.BigQuiet
import Derived.Deep.RegionHeld3
import Derived.Deep.LoopGhost
import Derived.Deep.AppendLies
import Derived.Deep.DeepCutAuto
import Derived.Stop.Asserts
import Derived.RowKitTokens
import Derived.Lib.Strings
import Derived.Lib.BufferWrite
import Derived.Lib.ConvBytes
import Derived.Test.YtejgpbhionadbaaGreatDoorXg4
import Derived.Test.YtejgpbhionadbaaGreatDoorXg9
set_option maxRecDepth 100000
set_option maxHeartbeats 4000000
namespace Go.Proofs.YtejgpbhionadbaaGreatDoor
open Go.RowKit
theorem fz_parts {s:Int}{g n f T:Nat}{L:Int}(hz:Fz s g n f T L):n=T * 2 ^ f∧n<g∧2 * g≤18446744073709551616∧0<g:=by
 rcases hz with ⟨_,rfl,rfl,rfl,rfl,_⟩ | ⟨_,rfl,rfl,rfl,rfl,_⟩ <;> decide
theorem parts_lim {s:Int}{g n f T:Nat}{L:Int}(hz:Fz s g n f T L) {m:Nat}(hm:m<n):mt f m<9007199254740992 ∧ -1074≤xp f L m∧xp f L m≤971:=by
 have e23:(2:Nat) ^ 23=8388608:=by decide
 have e52:(2:Nat) ^ 52=4503599627370496:=by decide
 unfold mt xp
 rcases hz with ⟨_,_,rfl,rfl,_,rfl⟩ | ⟨_,_,rfl,rfl,_,rfl⟩
 · rw [e23]
   split <;> omega
 · rw [e52]
   split <;> omega
theorem frc_cmp {n d N D m:Nat}{x:Int}(h:Frc N D m x) (D0:0<D):(vL n d 0 m x ↔ n * D<N * d)∧(vE n d 0 m x ↔ n * D=N * d):=by
 obtain ⟨h,_⟩:=h
 obtain ⟨K,k0,k1,e⟩:=h
 have p:0<2 ^ (0 - K).toNat:=Nat.two_pow_pos _
 have e':N * 2 ^ (0 - K).toNat=D * ev K m x:=e
 have key:∀ R:Nat → Nat → Prop,(∀ a b c,0<c → (R (a * c) (b * c) ↔ R a b)) → (R (n * 2 ^ (0 - K).toNat) (d * ev K m x) ↔ R (n * D) (N * d)):=by
  intro R hR
  rw [← hR (n * 2 ^ (0 - K).toNat) (d * ev K m x) D D0,← hR (n * D) (N * d) _ p]
  have a:n * 2 ^ (0 - K).toNat * D=n * D * 2 ^ (0 - K).toNat:=Nat.mul_right_comm _ _ _
  have b:d * ev K m x * D=N * d * 2 ^ (0 - K).toNat:=by
   rw [Nat.mul_assoc,Nat.mul_comm (ev K m x) D,← e',Nat.mul_comm N d,Nat.mul_assoc]
  rw [a,b]
 refine ⟨⟨fun q=>?_,fun q=>?_⟩,⟨fun q=>?_,fun q=>?_⟩⟩
 · exact (key (·<·) fun a b c c0=>Nat.mul_lt_mul_right c0).mp (q.at K k0 k1)
 · exact ⟨K,k0,k1,(key (·<·) fun a b c c0=>Nat.mul_lt_mul_right c0).mpr q⟩
 · exact (key (·=·) fun a b c c0=>Nat.mul_left_inj (by omega)).mp (q.at K k0 k1)
 · exact ⟨K,k0,k1,(key (·=·) fun a b c c0=>Nat.mul_left_inj (by omega)).mpr q⟩
theorem xz_pos {s:Int}{f T:Nat}{L:Int}{M K:Nat}(h:Xz s f T L M K):0<f∧2≤T∧M≤9007199254740992∧K≤22:=by
 rcases h with ⟨rfl,rfl,rfl,rfl,rfl,rfl⟩ | ⟨rfl,rfl,rfl,rfl,rfl,rfl⟩ <;> decide
theorem top32:(rdA 23 255 (-149) (16777216 * 10 ^ 10) 1 0 false).1<255 * 2 ^ 23:=by decide +kernel
theorem top64:(rdA 52 2047 (-1074) (9007199254740992 * 10 ^ 22) 1 0 false).1<2047 * 2 ^ 52:=by decide +kernel
theorem xz_top {s:Int}{f T:Nat}{L:Int}{M K:Nat}(h:Xz s f T L M K):(rdA f T L (M * 10 ^ K) 1 0 false).1<T * 2 ^ f:=by
 rcases h with ⟨rfl,rfl,rfl,rfl,rfl,rfl⟩ | ⟨rfl,rfl,rfl,rfl,rfl,rfl⟩
 · exact top32
 · exact top64
theorem exA_fin {s:Int}{f T:Nat}{L:Int}{M K:Nat}(h:Xz s f T L M K) {m:Nat}{e:Int}(hm:m≤M) (h1:e≤K):exA f T L m e<T * 2 ^ f:=by
 obtain ⟨pf,_,_,_⟩:=xz_pos h
 have a:(rdA f T L (m * 10 ^ e.toNat) (10 ^ (-e).toNat) 0 false).1≤(rdA f T L (m * 10 ^ e.toNat * 10 ^ (-e).toNat) (10 ^ (-e).toNat) 0 false).1:=rdA_mono pf (ten_ne _) (Nat.le_mul_of_pos_right _ (Nat.pow_pos (by decide)))
 have b:rdA f T L (m * 10 ^ e.toNat * 10 ^ (-e).toNat) (10 ^ (-e).toNat) 0 false=rdA f T L (m * 10 ^ e.toNat) 1 0 false:=rdA_same pf (ten_ne _) (by decide) (by rw [Nat.mul_one];exact ⟨0,Int.le_refl _,Int.le_refl _,rfl⟩)
 have c:(rdA f T L (m * 10 ^ e.toNat) 1 0 false).1≤(rdA f T L (M * 10 ^ K) 1 0 false).1:=rdA_mono pf (by decide) (Nat.mul_le_mul hm (Nat.pow_le_pow_right (by decide) (by omega)))
 have d:=xz_top h
 rw [b] at a
 unfold exA
 omega
end Go.Proofs.YtejgpbhionadbaaGreatDoor
