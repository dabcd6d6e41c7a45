/-
  The law's own sure of layer 17.
-/
import Derived.Test.YtkmnkogbafhfdaaDoorHxB
import Derived.Test.YtkmnkogbafhfdaaDoorErrNum
namespace Go.Proofs.YtkmnkogbafhfdaaDoor
open Go.RowKit

set_option maxRecDepth 100000 in
set_option maxHeartbeats 1000000 in
theorem sure17 (w : World) (hT : Tab w) : Calls Tryd.prog 8 #[] w fun e w' => e = .returned (.bool true) ∧ Below w.heap.size w w' := by
  have R := hround_ok (s := 64) (.inr ⟨rfl, rfl, rfl, rfl, rfl, rfl⟩) false (m := 3) (by decide) (-1) false w hT
  rw [show hxA 52 2047 (-1074) 3 (-1) false = some (4609434218613702656, false) from by decide +kernel] at R
  have R2 : Calls Tryd.prog 9 #[.bool false, .int .u64 3, .int .i64 (-1), .bool false, .int .i64 64] w fun x w' => x = .returned (.tuple #[.int .u64 4609434218613702656, .nilIface]) ∧ Below w.heap.size w w' := R
  clear R
  go_enter Tryd.func8, Tryd.ntmps8
  go_wp2_with fail
  refine R2.mono ?_
  rintro e w1 ⟨rfl, hb⟩
  have B1 : Hid (Below w.heap.size w w1) := hb
  clear hb R2
  go_wp2
  go_ret
  exact ⟨rfl, B1.out⟩
end Go.Proofs.YtkmnkogbafhfdaaDoor
