/-
  The listed variables of the rows of layer 18; a world in which they lie.
-/
import Derived.Test.YtejgpbhionadbaaGreatDoorXl12
import Derived.Test.YtejgpbhionadbaaGreatDoorXl37
import Derived.Test.YtejgpbhionadbaaGreatDoorRows
import Derived.ProofKit
import Derived.LaidHandle
import Derived.LaidSub
import Derived.Stop.Joined
import Derived.ChangeArms
import Derived.ChangeMaps5
import Derived.Lib.SmallJoins
import Derived.ChangeSlices
import Derived.Carry
import Derived.LaidLaws
import Derived.Lib.LaidTab
import Derived.Deep.DeepHandedRow
namespace Go.Proofs.YtejgpbhionadbaaGreatDoor
open Go.ChangeShapes Go.WideShapes Go.ChangeAt Go.RowKit Go.Joins

theorem ownP : ownKnob Tryz.prog.godebug = none := by kernel_rfl
theorem nat_of_u64 {x : Int} (h : (Lit.int .u64 x).wf = true) : ∃ n : Nat, x = (n : Int) ∧ n < 18446744073709551616 := by
  simp [Lit.wf, IntKind.min, IntKind.max, IntKind.signed, IntKind.bits] at h
  exact ⟨x.toNat, by omega, by omega⟩
theorem gTab : Tryz.prog.globalNamed "math/bits.deBruijn64tab" = some 4 := by kernel_rfl
theorem gTabType : (Tryz.prog.globals[4]?).map (·.type) = some 361 := by kernel_rfl
theorem cellsTab : Tryz.prog.cellsOf 361 = 64 := by kernel_rfl
theorem cells5 : Tryz.prog.cellsOf 5 = 1 := by kernel_rfl

def psLaid : List (String × DataW Unit) := [("math/bits.deBruijn64tab", Rows.laid_math_bits_deBruijn64tab), ("unicode/utf8.acceptRanges", Rows.laid_unicode_utf8_acceptRanges), ("errors.errorType", Rows.laid_errors_errorType), ("unicode/utf8.first", Rows.laid_unicode_utf8_first)]
theorem psLaid_h : (psLaid.filter fun x => x.2.handleName?.isSome) = [("errors.errorType", Rows.laid_errors_errorType)] := by kernel_rfl
theorem psLaid_n : (psLaid.filter fun x => x.2.handleName?.isNone) = [("math/bits.deBruijn64tab", Rows.laid_math_bits_deBruijn64tab), ("unicode/utf8.acceptRanges", Rows.laid_unicode_utf8_acceptRanges), ("unicode/utf8.first", Rows.laid_unicode_utf8_first)] := by kernel_rfl
theorem errD_global : Tryz.prog.globalNamed "errors.errorType" = some 0 := by kernel_rfl
theorem errD_rtype : (Tryz.prog.cutTypes.find? (·.1 == "internal/reflectlite.rtype")).map (·.2) = some 119 := by kernel_rfl
theorem errD_row : ((List.range 392).filter fun t => Tryz.prog.rowNamed t [101, 114, 114, 111, 114]) = [25] := by kernel_rfl
theorem errD_types : Tryz.prog.types.size = 392 := by kernel_rfl
theorem errD_of {W : World} (h : laidMetH Tryz.prog psLaid W) : ErrT W := by
  unfold laidMetH at h
  rw [psLaid_h] at h
  obtain ⟨name, u, ty, e1, e2, e3, e4, e5⟩ := h.2 _ (List.mem_singleton.2 rfl)
  have en : name = [101, 114, 114, 111, 114] := (Option.some.inj e1).symm
  subst en
  obtain rfl := Option.some.inj (errD_rtype.symm.trans e2)
  have hm : ty ∈ (List.range 392).filter fun t => Tryz.prog.rowNamed t [101, 114, 114, 111, 114] := List.mem_filter.2 ⟨List.mem_range.2 (by rw [← errD_types]; exact e3), e4⟩
  rw [errD_row] at hm
  obtain rfl := List.mem_singleton.1 hm
  have hh : typeHandle Tryz.prog 25 = .pointer (some ⟨8, 25, none⟩) := by kernel_rfl
  rw [hh] at e5
  unfold ErrT
  simpa using World.var?_cell errD_global e5 0

/-- The variable errors.errorType laid. -/
def typeAt (h : Array Obj) : Array Obj := h.modify 0 fun
  | .cells _ t frozen => .cells #[.iface 119 (.agg #[.pointer (some ⟨8, 25, none⟩)])] t frozen
  | o => o
theorem laidN {W : World} (h : laidMetH Tryz.prog psLaid W) : laidMet Tryz.prog (psLaid.filter fun x => x.2.handleName?.isNone) W := by
  unfold laidMetH at h
  exact h.1
theorem table {W : World} (h : laidMetH Tryz.prog psLaid W) : Lib.TabIs Tryz.prog W "math/bits.deBruijn64tab" .u8 (Lib.deBruijn64tab.map Int.ofNat) :=
  Lib.tabIs_of_head (rest := [("unicode/utf8.acceptRanges", Rows.laid_unicode_utf8_acceptRanges), ("unicode/utf8.first", Rows.laid_unicode_utf8_first)]) gTab gTabType Tryz.underlying361 Tryz.underlying5 cells5 cellsTab (by have q := laidN h; rw [psLaid_n] at q; exact q)
theorem tab_of {W : World} (h : laidMetH Tryz.prog psLaid W) : Tab W := by
  intro j hj
  have c := (table h).cell gTab j (by rw [List.length_map]; exact hj)
  rw [c]
  congr 2
  rw [List.getD_eq_getElem?_getD, List.getD_eq_getElem?_getD, List.getElem?_map]
  have l : j < Lib.deBruijn64tab.length := hj
  rw [List.getElem?_eq_getElem l]
  rfl

/-- The cells of a table of numbers, or of a table of such tables. -/
def cellsIn : DataW Unit → List Value
  | .agg l => l.flatMap fun
    | .lit (.int k n) => [.int k n]
    | .agg m => m.flatMap fun | .lit (.int k n) => [.int k n] | _ => []
    | _ => []
  | _ => []
def layAt (h : Array Obj) (g : Nat) (d : DataW Unit) : Array Obj := h.modify g fun
  | .cells _ t frozen => .cells (cellsIn d).toArray t frozen
  | o => o

/-- A world for the witness: the settled one, the listed variables holding what the program's text lays. -/
noncomputable def psWorld (os : Os) : World :=
  { World.holding Tryz.prog os ⟨#[], #[], []⟩ with heap := typeAt (layAt (layAt (layAt (World.holding Tryz.prog os ⟨#[], #[], []⟩).heap 4 Rows.laid_math_bits_deBruijn64tab) 3 Rows.laid_unicode_utf8_acceptRanges) 2 Rows.laid_unicode_utf8_first) }
end Go.Proofs.YtejgpbhionadbaaGreatDoor
