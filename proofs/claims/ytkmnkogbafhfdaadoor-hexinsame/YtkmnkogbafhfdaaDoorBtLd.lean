/-
  The listed variables of layer 11: math/bits' table and errors.errorType, out of the rows that list them; worlds for the witnesses.
-/
import Derived.Test.YtkmnkogbafhfdaaDoorAs3
import Derived.Test.YtkmnkogbafhfdaaDoorBtZ
import Derived.Test.YtkmnkogbafhfdaaDoorBsX
namespace Go.Proofs.YtkmnkogbafhfdaaDoor
open Go.ChangeShapes Go.WideShapes Go.ChangeAt Go.RowKit Go.Joins

theorem int_of_i64 {x : Int} (h : (Lit.int .i64 x).wf = true) : -9223372036854775808 ≤ x ∧ x ≤ 9223372036854775807 := by
  simp [Lit.wf, IntKind.min, IntKind.max, IntKind.signed, IntKind.bits] at h
  omega
/-- The listed variables: both; the table alone. -/
def btLaid : List (String × DataW Unit) := [("math/bits.deBruijn64tab", Rows.laid_math_bits_deBruijn64tab), ("errors.errorType", Rows.laid_errors_errorType)]
def btTab : List (String × DataW Unit) := [("math/bits.deBruijn64tab", Rows.laid_math_bits_deBruijn64tab)]
theorem btLaid_h : (btLaid.filter fun x => x.2.handleName?.isSome) = [("errors.errorType", Rows.laid_errors_errorType)] := by kernel_rfl
theorem btLaid_n : (btLaid.filter fun x => x.2.handleName?.isNone) = [("math/bits.deBruijn64tab", Rows.laid_math_bits_deBruijn64tab)] := by kernel_rfl
theorem btTab_h : (btTab.filter fun x => x.2.handleName?.isSome) = [] := by kernel_rfl

theorem errB_global : Tryd.prog.globalNamed "errors.errorType" = some 0 := by kernel_rfl
theorem errB_rtype : (Tryd.prog.cutTypes.find? (·.1 == "internal/reflectlite.rtype")).map (·.2) = some 91 := by kernel_rfl
theorem errB_row : ((List.range 152).filter fun t => Tryd.prog.rowNamed t [101, 114, 114, 111, 114]) = [28] := by kernel_rfl
theorem errB_types : Tryd.prog.types.size = 152 := by kernel_rfl
theorem errB_of {W : World} (h : laidMetH Tryd.prog btLaid W) : ErrT W := by
  unfold laidMetH at h
  rw [btLaid_h] at h
  obtain ⟨name, u, ty, e1, e2, e3, e4, e5⟩ := h.2 _ (List.mem_singleton.2 rfl)
  have en : name = [101, 114, 114, 111, 114] := (Option.some.inj e1).symm
  subst en
  obtain rfl := Option.some.inj (errB_rtype.symm.trans e2)
  have hm : ty ∈ (List.range 152).filter fun t => Tryd.prog.rowNamed t [101, 114, 114, 111, 114] := List.mem_filter.2 ⟨List.mem_range.2 (by rw [← errB_types]; exact e3), e4⟩
  rw [errB_row] at hm
  obtain rfl := List.mem_singleton.1 hm
  have hh : typeHandle Tryd.prog 28 = .pointer (some ⟨2, 28, none⟩) := by kernel_rfl
  rw [hh] at e5
  unfold ErrT
  simpa using World.var?_cell errB_global e5 0

theorem gTab : Tryd.prog.globalNamed "math/bits.deBruijn64tab" = some 1 := by kernel_rfl
theorem gTabType : (Tryd.prog.globals[1]?).map (·.type) = some 122 := by kernel_rfl
theorem cellsTab : Tryd.prog.cellsOf 122 = 64 := by kernel_rfl
theorem cells5 : Tryd.prog.cellsOf 5 = 1 := by kernel_rfl
theorem table {W : World} (h : laidMet Tryd.prog btTab W) : Lib.TabIs Tryd.prog W "math/bits.deBruijn64tab" .u8 (Lib.deBruijn64tab.map Int.ofNat) :=
  Lib.tabIs_of_head (rest := []) gTab gTabType Tryd.underlying122 Tryd.underlying5 cells5 cellsTab h
theorem tab_of {W : World} (h : laidMet Tryd.prog btTab W) : Tab W := by
  intro j hj
  have c := (table h).cell gTab j (by rw [List.length_map]; exact hj)
  rw [c]
  congr 2
  rw [List.getD_eq_getElem?_getD, List.getD_eq_getElem?_getD, List.getElem?_map]
  have l : j < Lib.deBruijn64tab.length := hj
  rw [List.getElem?_eq_getElem l]
  rfl
theorem tabB_of {W : World} (h : laidMetH Tryd.prog btLaid W) : Tab W := by
  unfold laidMetH at h
  rw [btLaid_n] at h
  exact tab_of h.1
theorem tabT_of {W : World} (h : laidMetH Tryd.prog btTab W) : Tab W := by
  unfold laidMetH at h
  rw [btTab_h] at h
  exact tab_of h

/-- The cells of a table of numbers. -/
def cellsIn : DataW Unit → List Value
  | .agg l => l.flatMap fun
    | .lit (.int k n) => [.int k n]
    | _ => []
  | _ => []
def layAt (h : Array Obj) (g : Nat) (d : DataW Unit) : Array Obj := h.modify g fun
  | .cells _ t frozen => .cells (cellsIn d).toArray t frozen
  | o => o
/-- Worlds for the witnesses: the settled one, the listed variables laid. -/
noncomputable def tabWorld (os : Os) : World :=
  { World.holding Tryd.prog os ⟨#[], #[], []⟩ with heap := layAt (World.holding Tryd.prog os ⟨#[], #[], []⟩).heap 1 Rows.laid_math_bits_deBruijn64tab }
noncomputable def btWorld (os : Os) : World :=
  { World.holding Tryd.prog os ⟨#[], #[], []⟩ with heap := (layAt (World.holding Tryd.prog os ⟨#[], #[], []⟩).heap 1 Rows.laid_math_bits_deBruijn64tab).modify 0 fun
      | .cells _ t frozen => .cells #[.iface 91 (.agg #[.pointer (some ⟨2, 28, none⟩)])] t frozen
      | o => o }

/-- A float's parts, as an argument: a struct of four fields, opened and shut. -/
theorem four_of {α : Type} {l : List α} (h : l.length = 4) : ∃ a b c d, l = [a, b, c, d] := by
  match l, h with
  | [a, b, c, d], _ => exact ⟨a, b, c, d, rfl⟩
theorem cellsF : Tryd.prog.cellsOf 79 = 4 := by kernel_rfl
theorem cellsU : Tryd.prog.cellsOf 24 = 1 := by kernel_rfl
theorem cells3 : Tryd.prog.cellsOf 3 = 1 := by kernel_rfl
theorem cells4 : Tryd.prog.cellsOf 4 = 1 := by kernel_rfl
def flV (c : Bool) (k m p : Int) : Value := .agg #[.bool c, .int .i64 k, .int .u64 m, .int .i64 p]
def flD (H : Type) (c : Bool) (k m p : Int) : DataW H := .agg [.lit (.bool c), .lit (.int .i64 k), .lit (.int .u64 m), .lit (.int .i64 p)]
set_option maxRecDepth 100000 in
theorem fl_open {H : Type} {enc : TypeId × Value → H} {W : World} {base b0 : Nat} {spare : Nat → Bool} {held : Bool} {r : Reach} {v : Value} {d : DataW H} {ps : List MemPlace}
    (hv : Value.okWide Tryd.prog W r b0 79 v) (h : DataW.Trod enc Tryd.prog W base spare held 79 v d ps) :
    ∃ (c : Bool) (k m p : Int), v = flV c k m p ∧ d = flD H c k m p ∧ ps = [] ∧ (Lit.int .i64 k).wf = true ∧ (Lit.int .u64 m).wf = true ∧ (Lit.int .i64 p).wf = true := by
  obtain ⟨cs, rfl, hsz⟩ := okWide_struct Tryd.underlying79 hv
  obtain ⟨fuel, hf⟩ := h
  obtain ⟨xs, n, _, hx, _, hl, hr⟩ := DataW.trod_struct Tryd.underlying79 hf
  obtain ⟨y0, y1, y2, y3, rfl⟩ := four_of hl
  obtain ⟨c0, c1, c2, c3, hc⟩ := four_of (l := cs.toList) (by rw [Array.length_toList]; exact hsz.trans cellsF)
  obtain rfl : cs = #[c0, c1, c2, c3] := Array.toList_inj.1 hc
  have r0 := hr 0 _ rfl
  have r1 := hr 1 _ rfl
  have r2 := hr 2 _ rfl
  have r3 := hr 3 _ rfl
  simp [Value.cells, cellsU, cells3, cells4] at r0 r1 r2 r3
  obtain ⟨c, e0, rfl⟩ := DataW.trod_bool Tryd.underlying4 r0
  obtain ⟨k, e1, rfl, w1⟩ := DataW.trod_int Tryd.underlying3 r1
  obtain ⟨m, e2, rfl, w2⟩ := DataW.trod_int Tryd.underlying24 r2
  obtain ⟨p, e3, rfl, w3⟩ := DataW.trod_int Tryd.underlying3 r3
  simp at e0 e1 e2 e3
  subst e0 e1 e2 e3
  simp at hx
  exact ⟨c, k, m, p, rfl, hx.1, hx.2, w1, w2, w3⟩
set_option maxRecDepth 100000 in
theorem fl_shut {H : Type} {enc : TypeId × Value → H} {W : World} {base : Nat} {spare : Nat → Bool} {held : Bool} {c : Bool} {k m p : Int}
    (w1 : (Lit.int .i64 k).wf = true) (w2 : (Lit.int .u64 m).wf = true) (w3 : (Lit.int .i64 p).wf = true) :
    DataW.Trod enc Tryd.prog W base spare held 79 (flV c k m p) (flD H c k m p) [] := by
  have z := trod_struct_mk (enc := enc) (w := W) (base := base) (spare := spare) (held := held) (n := 1) (cs := [.bool c, .int .i64 k, .int .u64 m, .int .i64 p])
    (xs := [(.lit (.bool c), []), (.lit (.int .i64 k), []), (.lit (.int .u64 m), []), (.lit (.int .i64 p), [])]) Tryd.underlying79 (by rw [cellsF]; rfl)
    (by simp [cellsU, cells3, cells4, DataW.trod, Tryd.underlying3, Tryd.underlying4, Tryd.underlying24, w1, w2, w3])
  exact ⟨2, by simpa [Value.cells, flV, flD] using z⟩
end Go.Proofs.YtkmnkogbafhfdaaDoor
