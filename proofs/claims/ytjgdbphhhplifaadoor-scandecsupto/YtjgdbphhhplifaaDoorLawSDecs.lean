/-
  The law ScanDecs: the walk.
-/
import Derived.Test.YtjgdbphhhplifaaDoorScK
import Derived.Test.YtjgdbphhhplifaaDoorScU
namespace Go.Proofs.YtjgdbphhhplifaaDoor
open Go.RowKit

set_option maxRecDepth 100000 in
set_option maxHeartbeats 2000000 in
theorem decs_law (W P : List UInt8) (hl : W.length + P.length ≤ 1048576) (e : Int) (w : World) : Calls Tryd.prog 4 #[.string (bl W), .string (bl P), .int .i64 e] w fun o w' => o = .returned (.bool true) ∧ Below w.heap.size w w' := by
  have D1 := fun V => dec_any W P (by omega) e V
  have D2 := fun V => rdec_any W P hl e V
  have WK := fun V => works_any V
  unfold deV dcV at D1 D2
  have eT := str_eq (bl (dcT W P))
  generalize bl (dcT W P) = T at *
  generalize dcP W P e = p at *
  generalize dcC W P = c at *
  clear hl
  generalize bl W = s at *
  generalize bl P = t at *
  go_enter Tryd.func4, Tryd.ntmps4
  go_wp2_with fail
  refine (D1 _).mono ?_
  rintro o w1 ⟨rfl, b1⟩
  have B1 : Hid (Below w.heap.size w w1) := b1
  clear b1
  go_wp2_with fail
  refine (D2 _).mono ?_
  rintro o w2 ⟨rfl, b2⟩
  have B2 : Hid (Below w.heap.size w w2) := B1.out.trans (b2.mono B1.out.size)
  clear b2
  go_wp2_with fail
  refine (WK _).mono ?_
  rintro o w3 ⟨rfl, b3⟩
  have B3 : Hid (Below w.heap.size w w3) := B2.out.trans (b3.mono B2.out.size)
  clear b3
  go_wp2
  go_ret
  exact ⟨rfl, B3.out⟩
end Go.Proofs.YtjgdbphhhplifaaDoor
