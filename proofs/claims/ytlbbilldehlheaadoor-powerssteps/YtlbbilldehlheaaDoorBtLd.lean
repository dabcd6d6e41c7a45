/-
  The listed variables of layer 11: math/bits' table and errors.errorType, out of the rows that list them; worlds for the witnesses.
-/
import Derived.Test.YtlbbilldehlheaaDoorAs3
import Derived.Test.YtlbbilldehlheaaDoorBtZ
import Derived.Test.YtlbbilldehlheaaDoorBsX
namespace Go.Proofs.YtlbbilldehlheaaDoor
open Go.ChangeShapes Go.WideShapes Go.ChangeAt Go.RowKit Go.Joins

theorem int_of_i64 {x : Int} (h : (Lit.int .i64 x).wf = true) : -9223372036854775808 ≤ x ∧ x ≤ 9223372036854775807 := by
  simp [Lit.wf, IntKind.min, IntKind.max, IntKind.signed, IntKind.bits] at h
  omega
/-- The listed variables: both; the table alone. -/
def btLaid : List (String × DataW Unit) := [("math/bits.deBruijn64tab", Rows.laid_math_bits_deBruijn64tab), ("errors.errorType", Rows.laid_errors_errorType)]
def btTab : List (String × DataW Unit) := [("math/bits.deBruijn64tab", Rows.laid_math_bits_deBruijn64tab)]
theorem btLaid_h : (btLaid.filter fun x => x.2.handleName?.isSome) = [("errors.errorType", Rows.laid_errors_errorType)] := by kernel_rfl
theorem btLaid_n : (btLaid.filter fun x => x.2.handleName?.isNone) = [("math/bits.deBruijn64tab", Rows.laid_math_bits_deBruijn64tab)] := by kernel_rfl
theorem btTab_h : (btTab.filter fun x => x.2.handleName?.isSome) = [] := by kernel_rfl

theorem errB_global : Tryd.prog.globalNamed "errors.errorType" = some 0 := by kernel_rfl
theorem errB_rtype : (Tryd.prog.cutTypes.find? (·.1 == "internal/reflectlite.rtype")).map (·.2) = some 116 := by kernel_rfl
theorem errB_row : ((List.range 171).filter fun t => Tryd.prog.rowNamed t [101, 114, 114, 111, 114]) = [28] := by kernel_rfl
theorem errB_types : Tryd.prog.types.size = 171 := by kernel_rfl
theorem errB_of {W : World} (h : laidMetH Tryd.prog btLaid W) : ErrT W := by
  unfold laidMetH at h
  rw [btLaid_h] at h
  obtain ⟨name, u, ty, e1, e2, e3, e4, e5⟩ := h.2 _ (List.mem_singleton.2 rfl)
  have en : name = [101, 114, 114, 111, 114] := (Option.some.inj e1).symm
  subst en
  obtain rfl := Option.some.inj (errB_rtype.symm.trans e2)
  have hm : ty ∈ (List.range 171).filter fun t => Tryd.prog.rowNamed t [101, 114, 114, 111, 114] := List.mem_filter.2 ⟨List.mem_range.2 (by rw [← errB_types]; exact e3), e4⟩
  rw [errB_row] at hm
  obtain rfl := List.mem_singleton.1 hm
  have hh : typeHandle Tryd.prog 28 = .pointer (some ⟨4, 28, none⟩) := by kernel_rfl
  rw [hh] at e5
  unfold ErrT
  simpa using World.var?_cell errB_global e5 0

theorem gTab : Tryd.prog.globalNamed "math/bits.deBruijn64tab" = some 1 := by kernel_rfl
theorem gTabType : (Tryd.prog.globals[1]?).map (·.type) = some 129 := by kernel_rfl
theorem cellsTab : Tryd.prog.cellsOf 129 = 64 := by kernel_rfl
theorem cells5 : Tryd.prog.cellsOf 5 = 1 := by kernel_rfl
theorem table {W : World} (h : laidMet Tryd.prog btTab W) : Lib.TabIs Tryd.prog W "math/bits.deBruijn64tab" .u8 (Lib.deBruijn64tab.map Int.ofNat) :=
  Lib.tabIs_of_head (rest := []) gTab gTabType Tryd.underlying129 Tryd.underlying5 cells5 cellsTab h
theorem tab_of {W : World} (h : laidMet Tryd.prog btTab W) : Tab W := by
  intro j hj
  have c := (table h).cell gTab j (by rw [List.length_map]; exact hj)
  rw [c]
  congr 2
  rw [List.getD_eq_getElem?_getD, List.getD_eq_getElem?_getD, List.getElem?_map]
  have l : j < Lib.deBruijn64tab.length := hj
  rw [List.getElem?_eq_getElem l]
  rfl
theorem tabB_of {W : World} (h : laidMetH Tryd.prog btLaid W) : Tab W := by
  unfold laidMetH at h
  rw [btLaid_n] at h
  exact tab_of h.1
theorem tabT_of {W : World} (h : laidMetH Tryd.prog btTab W) : Tab W := by
  unfold laidMetH at h
  rw [btTab_h] at h
  exact tab_of h

/-- The cells of a table of numbers. -/
def cellsIn : DataW Unit → List Value
  | .agg l => l.flatMap fun
    | .lit (.int k n) => [.int k n]
    | _ => []
  | _ => []
def layAt (h : Array Obj) (g : Nat) (d : DataW Unit) : Array Obj := h.modify g fun
  | .cells _ t frozen => .cells (cellsIn d).toArray t frozen
  | o => o
/-- Worlds for the witnesses: the settled one, the listed variables laid. -/
noncomputable def tabWorld (os : Os) : World :=
  { World.holding Tryd.prog os ⟨#[], #[], []⟩ with heap := layAt (World.holding Tryd.prog os ⟨#[], #[], []⟩).heap 1 Rows.laid_math_bits_deBruijn64tab }
noncomputable def btWorld (os : Os) : World :=
  { World.holding Tryd.prog os ⟨#[], #[], []⟩ with heap := (layAt (World.holding Tryd.prog os ⟨#[], #[], []⟩).heap 1 Rows.laid_math_bits_deBruijn64tab).modify 0 fun
      | .cells _ t frozen => .cells #[.iface 116 (.agg #[.pointer (some ⟨4, 28, none⟩)])] t frozen
      | o => o }

/-- A float's parts, as an argument: a struct of four fields, opened and shut. -/
theorem four_of {α : Type} {l : List α} (h : l.length = 4) : ∃ a b c d, l = [a, b, c, d] := by
  match l, h with
  | [a, b, c, d], _ => exact ⟨a, b, c, d, rfl⟩
theorem cellsU : Tryd.prog.cellsOf 22 = 1 := by kernel_rfl
theorem cells3 : Tryd.prog.cellsOf 3 = 1 := by kernel_rfl
theorem cells4 : Tryd.prog.cellsOf 4 = 1 := by kernel_rfl
def flV (c : Bool) (k m p : Int) : Value := .agg #[.bool c, .int .i64 k, .int .u64 m, .int .i64 p]
def flD (H : Type) (c : Bool) (k m p : Int) : DataW H := .agg [.lit (.bool c), .lit (.int .i64 k), .lit (.int .u64 m), .lit (.int .i64 p)]
end Go.Proofs.YtlbbilldehlheaaDoor
