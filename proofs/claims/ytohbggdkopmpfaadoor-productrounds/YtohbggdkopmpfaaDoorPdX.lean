/-
  The listed table of the rows of layer 15 and a world for the witnesses.
-/
import Derived.Test.YtohbggdkopmpfaaDoorBsX
import Derived.Test.YtohbggdkopmpfaaDoorBtZ
namespace Go.Proofs.YtohbggdkopmpfaaDoor
open Go.ChangeShapes Go.WideShapes Go.ChangeAt Go.RowKit Go.Joins

theorem int_of_i64 {x : Int} (h : (Lit.int .i64 x).wf = true) : -9223372036854775808 ≤ x ∧ x ≤ 9223372036854775807 := by
  simp [Lit.wf, IntKind.min, IntKind.max, IntKind.signed, IntKind.bits] at h
  omega
def btTab : List (String × DataW Unit) := [("math/bits.deBruijn64tab", Rows.laid_math_bits_deBruijn64tab)]
theorem btTab_h : (btTab.filter fun x => x.2.handleName?.isSome) = [] := by kernel_rfl

theorem gTab : Tryd.prog.globalNamed "math/bits.deBruijn64tab" = some 0 := by kernel_rfl
theorem gTabType : (Tryd.prog.globals[0]?).map (·.type) = some 139 := by kernel_rfl
theorem cellsTab : Tryd.prog.cellsOf 139 = 64 := by kernel_rfl
theorem cells5 : Tryd.prog.cellsOf 5 = 1 := by kernel_rfl
theorem table {W : World} (h : laidMet Tryd.prog btTab W) : Lib.TabIs Tryd.prog W "math/bits.deBruijn64tab" .u8 (Lib.deBruijn64tab.map Int.ofNat) :=
  Lib.tabIs_of_head (rest := []) gTab gTabType Tryd.underlying139 Tryd.underlying5 cells5 cellsTab h
theorem tab_of {W : World} (h : laidMet Tryd.prog btTab W) : Tab W := by
  intro j hj
  have c := (table h).cell gTab j (by rw [List.length_map]; exact hj)
  rw [c]
  congr 2
  rw [List.getD_eq_getElem?_getD, List.getD_eq_getElem?_getD, List.getElem?_map]
  have l : j < Lib.deBruijn64tab.length := hj
  rw [List.getElem?_eq_getElem l]
  rfl
theorem tabT_of {W : World} (h : laidMetH Tryd.prog btTab W) : Tab W := by
  unfold laidMetH at h
  rw [btTab_h] at h
  exact tab_of h

/-- The cells of a table of numbers. -/
def cellsIn : DataW Unit → List Value
  | .agg l => l.flatMap fun
    | .lit (.int k n) => [.int k n]
    | _ => []
  | _ => []
def layAt (h : Array Obj) (g : Nat) (d : DataW Unit) : Array Obj := h.modify g fun
  | .cells _ t frozen => .cells (cellsIn d).toArray t frozen
  | o => o
/-- Worlds for the witnesses: the settled one, the listed variables laid. -/
noncomputable def tabWorld (os : Os) : World :=
  { World.holding Tryd.prog os ⟨#[], #[], []⟩ with heap := layAt (World.holding Tryd.prog os ⟨#[], #[], []⟩).heap 0 Rows.laid_math_bits_deBruijn64tab }
theorem laidOut' : laidOutB Tryd.prog = true := by kernel_rfl
theorem cellsU64 : Tryd.prog.cellsOf 22 = 1 := by kernel_rfl
theorem wordNat_of_wf {x : Int} (h : (Lit.int .u64 x).wf = true) : 0 ≤ x ∧ x < 2 ^ 64 := by
  simp [Lit.wf, IntKind.min, IntKind.max, IntKind.signed, IntKind.bits] at h
  exact ⟨by omega, by omega⟩
end Go.Proofs.YtohbggdkopmpfaaDoor
