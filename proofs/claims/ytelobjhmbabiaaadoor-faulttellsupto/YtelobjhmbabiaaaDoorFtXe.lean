/-
  The listed variables; a world in which they lie.
-/
import Derived.Test.YtelobjhmbabiaaaDoorFtT
import Derived.Test.YtelobjhmbabiaaaDoorAs3
import Derived.LaidSub
import Derived.Lib.AppendIntMem
import Derived.Test.YtelobjhmbabiaaaDoorRows
import Derived.LaidLaws
import Derived.LaidHandle
import Derived.Stop.Joined
import Derived.ProofKit
import Derived.ChangeArms
import Derived.ChangeMaps5
import Derived.Lib.SmallJoins
import Derived.Lib.LaidTab
import Derived.Deep.DeepHandedRow
namespace Go.Proofs.YtelobjhmbabiaaaDoor
open Go.ChangeShapes Go.WideShapes Go.ChangeAt Go.RowKit Go.Joins

theorem ownF : ownKnob Tryd.prog.godebug = none := by kernel_rfl
/-- The cells of a table of numbers. -/
def cellsIn : DataW Unit → List Value
  | .agg l => l.flatMap fun
    | .lit (.int k n) => [.int k n]
    | _ => []
  | _ => []
def layAt (h : Array Obj) (g : Nat) (d : DataW Unit) : Array Obj := h.modify g fun
  | .cells _ t frozen => .cells (cellsIn d).toArray t frozen
  | o => o

/-- The listed variables. -/
def ftLaid : List (String × DataW Unit) := [("math/bits.deBruijn32tab", Rows.laid_math_bits_deBruijn32tab), ("math/bits.deBruijn64tab", Rows.laid_math_bits_deBruijn64tab), ("internal/strconv.uint64pow10", Rows.laid_internal_strconv_uint64pow10), ("errors.errorType", Rows.laid_errors_errorType)]
theorem ftLaid_h : (ftLaid.filter fun x => x.2.handleName?.isSome) = [("errors.errorType", Rows.laid_errors_errorType)] := by kernel_rfl
theorem ftLaid_n : (ftLaid.filter fun x => x.2.handleName?.isNone) = [("math/bits.deBruijn32tab", Rows.laid_math_bits_deBruijn32tab), ("math/bits.deBruijn64tab", Rows.laid_math_bits_deBruijn64tab), ("internal/strconv.uint64pow10", Rows.laid_internal_strconv_uint64pow10)] := by kernel_rfl

theorem errD_global : Tryd.prog.globalNamed "errors.errorType" = some 0 := by kernel_rfl
theorem errD_rtype : (Tryd.prog.cutTypes.find? (·.1 == "internal/reflectlite.rtype")).map (·.2) = some 104 := by kernel_rfl
theorem errD_row : ((List.range 163).filter fun t => Tryd.prog.rowNamed t [101, 114, 114, 111, 114]) = [23] := by kernel_rfl
theorem errD_types : Tryd.prog.types.size = 163 := by kernel_rfl
theorem errD_of {W : World} (h : laidMetH Tryd.prog ftLaid W) : ErrT W := by
  unfold laidMetH at h
  rw [ftLaid_h] at h
  obtain ⟨name, u, ty, e1, e2, e3, e4, e5⟩ := h.2 _ (List.mem_singleton.2 rfl)
  have en : name = [101, 114, 114, 111, 114] := (Option.some.inj e1).symm
  subst en
  obtain rfl := Option.some.inj (errD_rtype.symm.trans e2)
  have hm : ty ∈ (List.range 163).filter fun t => Tryd.prog.rowNamed t [101, 114, 114, 111, 114] := List.mem_filter.2 ⟨List.mem_range.2 (by rw [← errD_types]; exact e3), e4⟩
  rw [errD_row] at hm
  obtain rfl := List.mem_singleton.1 hm
  have hh : typeHandle Tryd.prog 23 = .pointer (some ⟨5, 23, none⟩) := by kernel_rfl
  rw [hh] at e5
  unfold ErrT
  simpa using World.var?_cell errD_global e5 0

/-- The variable errors.errorType laid. -/
def typeAt (h : Array Obj) : Array Obj := h.modify 0 fun
  | .cells _ t frozen => .cells #[.iface 104 (.agg #[.pointer (some ⟨5, 23, none⟩)])] t frozen
  | o => o
/-- A world for the witness: the settled one, the listed variables laid. -/
noncomputable def ftWorld (os : Os) : World :=
  { World.holding Tryd.prog os ⟨#[], #[], []⟩ with heap := typeAt (layAt (layAt (layAt ((World.holding Tryd.prog os ⟨#[], #[], []⟩).heap) 3 Rows.laid_math_bits_deBruijn32tab) 4 Rows.laid_math_bits_deBruijn64tab) 2 Rows.laid_internal_strconv_uint64pow10) }
theorem laidN {W : World} (h : laidMetH Tryd.prog ftLaid W) : laidMet Tryd.prog (ftLaid.filter fun x => x.2.handleName?.isNone) W := by
  unfold laidMetH at h
  exact h.1
theorem gPow : Tryd.prog.globalNamed "internal/strconv.uint64pow10" = some 2 := by kernel_rfl
theorem gPowType : (Tryd.prog.globals[2]?).map (·.type) = some 128 := by kernel_rfl
theorem cellsPow : Tryd.prog.cellsOf 128 = 20 := by kernel_rfl
theorem cellsU : Tryd.prog.cellsOf 77 = 1 := by kernel_rfl
theorem powData : (Rows.laid_internal_strconv_uint64pow10 : DataW Unit) = Lib.tabData .u64 Lib.pow10Tab := by rfl
theorem powOnly : ((ftLaid.filter fun x => x.2.handleName?.isNone).filter fun x => x.1 == "internal/strconv.uint64pow10") = [("internal/strconv.uint64pow10", Rows.laid_internal_strconv_uint64pow10)] := by kernel_rfl
theorem pow_of {W : World} (h : laidMetH Tryd.prog ftLaid W) : PowB W.heap.size W := by
  have q := (laidN h).filter fun x => x.1 == "internal/strconv.uint64pow10"
  rw [powOnly] at q
  have t : Pow W := Lib.tabIs_of_head (rest := []) gPow gPowType Tryd.underlying128 Tryd.underlying77 cellsU cellsPow (by rw [← powData]; exact q)
  intro w' hb
  exact Lib.tabBelow_of_tabIs t w' hb

end Go.Proofs.YtelobjhmbabiaaaDoor
