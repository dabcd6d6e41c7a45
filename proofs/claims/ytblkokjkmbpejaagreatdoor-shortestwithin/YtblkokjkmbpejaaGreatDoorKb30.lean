/-
  Holds: VPpO.
-/
import Derived.Test.YtblkokjkmbpejaaGreatDoorRows
import Derived.Laws.Externs
import Derived.WalkKit
import Derived.WalkSpells
import Derived.WalkLawsBesides
import Derived.Lib.Mul64
import Derived.Lib.TrailingZeros
import Derived.Lib.ItoaNum
import Derived.BigQuiet
import Derived.Deep.RegionHeld3
import Derived.Deep.DeepCutAuto
import Derived.Deep.OwnRows
import Derived.Laws.CopyOwn
import Derived.Deep.AppendLies
import Derived.Test.YtblkokjkmbpejaaGreatDoorKb21
set_option maxRecDepth 100000
set_option maxHeartbeats 4000000
namespace Go.Proofs.YtblkokjkmbpejaaGreatDoor
open Go.RowKit
theorem dsmall_word (x : Nat) (hx : x < 18446744073709551616) (w : World) :
 Calls Tryz.prog 39 #[.int .u64 (x : Int)] w fun e w' => ∃ v, e = .returned v ∧ Big.D.NatV w' v x ∧ Below w.heap.size w w' := by
 obtain ⟨a, ha⟩ : ∃ a, a = x % 4294967296 := ⟨_, rfl⟩
 obtain ⟨b, hb⟩ : ∃ b, b = x / 4294967296 := ⟨_, rfl⟩
 have e1 : (x : Int) % 4294967296 = (a : Int) := by omega
 have e2 : (x : Int) / 4294967296 = (b : Int) := by omega
 have l1 : a < 4294967296 := by omega
 have l2 : b < 4294967296 := by omega
 have hx2 : x = a + b * 4294967296 := by omega
 clear ha hb
 have S : Big.D.Sl (w.alloc (.cells #[.int .u64 (a : Int), .int .u64 (b : Int)] 22)) (some ⟨w.heap.size, 0, none⟩) 2 2 w.heap.size 0 (fun i => if i = 0 then a else if i = 1 then b else 0) := by
  refine ⟨Nat.le_refl _, by unfold maxLen; omega, fun _ => rfl, fun _ => by simp, fun i hi => ?_, fun i => ?_⟩
  · rcases (by omega : i = 0 ∨ i = 1) with rfl | rfl <;> simp
  · show (if i = 0 then a else if i = 1 then b else 0) < 4294967296
    split
    · exact l1
    · split
      · exact l2
      · decide
 have T := Big.D.trim_any S
 have hV : Big.V (fun i => if i = 0 then a else if i = 1 then b else 0) 2 = x := by
  rw [Big.V_succ, Big.V_succ, Big.V_zero, show Big.B ^ 0 = 1 from rfl, show Big.B ^ 1 = 4294967296 from rfl]
  simp
  omega
 have N := S.trimmed
 rw [hV] at N
 have HN : Hid _ := N
 clear N S hV hx2
 go_enter Tryz.func39, Tryz.ntmps39
 go_wp2_with fail
 refine T.mono ?_
 rintro e wa ⟨rfl, rfl⟩
 go_wp2
 go_ret
 exact ⟨_, rfl, HN.out, (Below.refl _ _).alloc (Nat.le_refl _) _⟩
end Go.Proofs.YtblkokjkmbpejaaGreatDoor
