/-
  Holds: UScRb.
-/
import Derived.Test.YtiminkommimgdabGreatDoorChecked
import Derived.WalkKit
import Derived.Deep.DeepMust
import Derived.Lib.Strings
import Derived.Lib.BufferWrite
import Derived.Deep.OwnRows
import Derived.Deep.AppendLies
import Derived.Test.YtiminkommimgdabGreatDoorZ0
set_option maxRecDepth 100000
set_option maxHeartbeats 4000000
namespace Go.Proofs.YtiminkommimgdabGreatDoor
open Go.RowKit
theorem und_bs : Tryz.prog.underlying 148 = some (.slice 5) := by kernel_rfl
theorem und_b8 : Tryz.prog.underlying 5 = some (.int .u8) := by kernel_rfl
theorem und_s9 : Tryz.prog.underlying 9 = some .string := by kernel_rfl
theorem add_plain0 (b o j : Nat) : (⟨b, o, none⟩ : Addr).add j = ⟨b, o + j, none⟩ := by unfold Addr.add; split <;> simp_all
theorem nums_text (l : List UInt8) : strOfNums (l.map fun c => (c.toNat : Int)) = ⟨l.toArray⟩ := by
 unfold strOfNums
 simp [Function.comp_def]
end Go.Proofs.YtiminkommimgdabGreatDoor
