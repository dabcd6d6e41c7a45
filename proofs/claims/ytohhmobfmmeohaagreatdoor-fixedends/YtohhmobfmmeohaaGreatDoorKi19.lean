/-
  Holds: VNatJ.
-/
import Derived.Test.YtohhmobfmmeohaaGreatDoorRows
import Derived.Laws.Externs
import Derived.WalkKit
import Derived.WalkSpells
import Derived.WalkLawsBesides
import Derived.Lib.Mul64
import Derived.Deep.OwnRows
import Derived.Laws.CopyOwn
import Derived.BigQuiet
import Derived.Deep.RegionHeld3
import Derived.Lib.TrailingZeros
import Derived.Lib.ItoaNum
import Derived.Deep.LoopGhost
import Derived.Test.YtohhmobfmmeohaaGreatDoorKi15
import Derived.Test.YtohhmobfmmeohaaGreatDoorKi18
set_option maxRecDepth 100000
set_option maxHeartbeats 4000000
namespace Go.Proofs.YtohhmobfmmeohaaGreatDoor
open Go.RowKit
theorem natv_pos {w : World} {ao : Option Addr} {n c b o : Nat} {f : Nat → Nat} (S : Sl w ao n c b o f) (h : V f n ≠ 0) : 0 < n := by
 rcases Nat.eq_zero_or_pos n with q | q
 · subst q; exact absurd rfl h
 · exact q
theorem nat_one {x : Nat} : V (fun i => if i = 0 then x else 0) 1 = x := by rw [V_succ, V_zero, Nat.pow_zero]; simp
theorem natv_lit {w : World} {x : Nat} (hx : x < B) (h0 : x ≠ 0) (t : TypeId) : NatV (w.alloc (.cells #[.int .u64 (x : Int)] t)) (.slice (some ⟨w.heap.size, 0, none⟩) 1 1) x := by
 refine ⟨_, 1, 1, w.heap.size, 0, fun i => if i = 0 then x else 0, rfl, ⟨Nat.le_refl _, by unfold maxLen; omega, fun _ => rfl, fun _ => by simp, fun i hi => ?_, fun i => ?_⟩, Or.inr h0, nat_one, by omega⟩
 · obtain rfl : i = 0 := by omega
   simp
 · show (if i = 0 then x else 0) < B
   split
   · exact hx
   · exact B_pos
theorem natv_nil (w : World) : NatV w (.slice none 0 0) 0 :=
 ⟨none, 0, 0, 0, 0, fun _ => 0, rfl, ⟨Nat.le_refl _, Nat.zero_le _, fun h => absurd h (by omega), fun h => absurd h (by omega), fun i h => absurd h (by omega), fun _ => B_pos⟩, Or.inl rfl, rfl, by omega⟩
theorem of_any (x : Nat) (hx : x < B) (w : World) :
 Calls Tryz.prog 66 #[.int .u64 (x : Int)] w fun e w' => ∃ v, e = .returned v ∧ NatV w' v x ∧ Below w.heap.size w w' := by
 by_cases c : x = 0
 · subst c
   go_enter Tryz.func66, Tryz.ntmps66
   go_wp2
   go_ret
   exact ⟨_, rfl, natv_nil w, Below.refl _ _⟩
 · have c' : ((x : Int) == 0) = false := beq_eq_false_iff_ne.mpr (by omega)
   go_enter Tryz.func66, Tryz.ntmps66
   go_wp2
   go_ret
   exact ⟨_, rfl, natv_lit hx c _, (Below.refl _ _).alloc (Nat.le_refl _) _⟩
theorem len_any (x : Nat) (hx : x < B) (w : World) :
 Calls Tryz.prog 82 #[.int .u64 (x : Int)] w fun e w' => e = .returned (.int .i64 (blen (x : Int))) ∧ w' = w := by
 unfold B at hx
 have T := len64_any (x : Int) ⟨by omega, by omega⟩ w
 go_enter Tryz.func82, Tryz.ntmps82
 go_wp2_with fail
 refine T.mono ?_
 rintro e wa ⟨rfl, rfl⟩
 go_wp2
 go_ret
 exact ⟨rfl, rfl⟩
end Go.Proofs.YtohhmobfmmeohaaGreatDoor
