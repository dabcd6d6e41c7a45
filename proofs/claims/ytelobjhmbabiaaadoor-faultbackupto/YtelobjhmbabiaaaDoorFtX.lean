/-
  The listed variables; a world in which they lie.
-/
import Derived.Test.YtelobjhmbabiaaaDoorFtT
import Derived.LaidSub
import Derived.Lib.AppendIntMem
import Derived.Test.YtelobjhmbabiaaaDoorRows
import Derived.LaidLaws
import Derived.LaidHandle
import Derived.Stop.Joined
import Derived.ProofKit
import Derived.ChangeArms
import Derived.ChangeMaps5
import Derived.Lib.SmallJoins
import Derived.Lib.LaidTab
import Derived.Deep.DeepHandedRow
namespace Go.Proofs.YtelobjhmbabiaaaDoor
open Go.ChangeShapes Go.WideShapes Go.ChangeAt Go.RowKit Go.Joins

theorem ownF : ownKnob Tryd.prog.godebug = none := by kernel_rfl
/-- The cells of a table of numbers. -/
def cellsIn : DataW Unit → List Value
  | .agg l => l.flatMap fun
    | .lit (.int k n) => [.int k n]
    | _ => []
  | _ => []
def layAt (h : Array Obj) (g : Nat) (d : DataW Unit) : Array Obj := h.modify g fun
  | .cells _ t frozen => .cells (cellsIn d).toArray t frozen
  | o => o

/-- The listed variables. -/
def ftLaid : List (String × DataW Unit) := [("math/bits.deBruijn32tab", Rows.laid_math_bits_deBruijn32tab), ("math/bits.deBruijn64tab", Rows.laid_math_bits_deBruijn64tab), ("internal/strconv.uint64pow10", Rows.laid_internal_strconv_uint64pow10)]
theorem ftLaid_plain : (ftLaid.filter fun x => x.2.handleName?.isSome) = [] := by kernel_rfl
/-- A world for the witness: the settled one, the listed variables laid. -/
noncomputable def ftWorld (os : Os) : World :=
  { World.holding Tryd.prog os ⟨#[], #[], []⟩ with heap := layAt (layAt (layAt ((World.holding Tryd.prog os ⟨#[], #[], []⟩).heap) 3 Rows.laid_math_bits_deBruijn32tab) 4 Rows.laid_math_bits_deBruijn64tab) 2 Rows.laid_internal_strconv_uint64pow10 }
theorem laidN {W : World} (h : laidMetH Tryd.prog ftLaid W) : laidMet Tryd.prog ftLaid W := by
  unfold laidMetH at h
  rw [ftLaid_plain] at h
  exact h
theorem laid_HO {W : World} (h : laidMet Tryd.prog ftLaid W) : laidMetH Tryd.prog ftLaid W := by
  unfold laidMetH
  rw [ftLaid_plain]
  exact h
theorem gPow : Tryd.prog.globalNamed "internal/strconv.uint64pow10" = some 2 := by kernel_rfl
theorem gPowType : (Tryd.prog.globals[2]?).map (·.type) = some 128 := by kernel_rfl
theorem cellsPow : Tryd.prog.cellsOf 128 = 20 := by kernel_rfl
theorem cellsU : Tryd.prog.cellsOf 77 = 1 := by kernel_rfl
theorem powData : (Rows.laid_internal_strconv_uint64pow10 : DataW Unit) = Lib.tabData .u64 Lib.pow10Tab := by rfl
theorem powOnly : (ftLaid.filter fun x => x.1 == "internal/strconv.uint64pow10") = [("internal/strconv.uint64pow10", Rows.laid_internal_strconv_uint64pow10)] := by kernel_rfl
theorem pow_of {W : World} (h : laidMetH Tryd.prog ftLaid W) : PowB W.heap.size W := by
  have q := (laidN h).filter fun x => x.1 == "internal/strconv.uint64pow10"
  rw [powOnly] at q
  have t : Pow W := Lib.tabIs_of_head (rest := []) gPow gPowType Tryd.underlying128 Tryd.underlying77 cellsU cellsPow (by rw [← powData]; exact q)
  intro w' hb
  exact Lib.tabBelow_of_tabIs t w' hb

end Go.Proofs.YtelobjhmbabiaaaDoor
