/-
  Decimal numbers as arguments, opened and shut; the listed variables; a world in which they lie.
-/
import Derived.Test.YtladeppjccfbhaaDoorAs3
import Derived.Test.YtladeppjccfbhaaDoorDecA
import Derived.Test.YtladeppjccfbhaaDoorRows
import Derived.LaidLaws
import Derived.LaidHandle
import Derived.Stop.Joined
import Derived.ProofKit
import Derived.ChangeArms
import Derived.ChangeMaps5
import Derived.Lib.SmallJoins
import Derived.Lib.LaidTab
import Derived.Deep.DeepHandedRow
namespace Go.Proofs.YtladeppjccfbhaaDoor
open Go.ChangeShapes Go.WideShapes Go.ChangeAt Go.RowKit Go.Joins

theorem ownD : ownKnob Tryd.prog.godebug = none := by kernel_rfl
theorem cellsD : Tryd.prog.cellsOf 23 = 3 := by kernel_rfl

/-- The listed variables. -/
def decLaid : List (String × DataW Unit) := [("unicode/utf8.acceptRanges", Rows.laid_unicode_utf8_acceptRanges), ("errors.errorType", Rows.laid_errors_errorType), ("unicode/utf8.first", Rows.laid_unicode_utf8_first)]
theorem decLaid_h : (decLaid.filter fun x => x.2.handleName?.isSome) = [("errors.errorType", Rows.laid_errors_errorType)] := by kernel_rfl
theorem decLaid_n : (decLaid.filter fun x => x.2.handleName?.isNone) = [("unicode/utf8.acceptRanges", Rows.laid_unicode_utf8_acceptRanges), ("unicode/utf8.first", Rows.laid_unicode_utf8_first)] := by kernel_rfl

theorem errD_global : Tryd.prog.globalNamed "errors.errorType" = some 0 := by kernel_rfl
theorem errD_rtype : (Tryd.prog.cutTypes.find? (·.1 == "internal/reflectlite.rtype")).map (·.2) = some 133 := by kernel_rfl
theorem errD_row : ((List.range 218).filter fun t => Tryd.prog.rowNamed t [101, 114, 114, 111, 114]) = [25] := by kernel_rfl
theorem errD_types : Tryd.prog.types.size = 218 := by kernel_rfl

theorem errD_of {W : World} (h : laidMetH Tryd.prog decLaid W) : ErrT W := by
  unfold laidMetH at h
  rw [decLaid_h] at h
  obtain ⟨name, u, ty, e1, e2, e3, e4, e5⟩ := h.2 _ (List.mem_singleton.2 rfl)
  have en : name = [101, 114, 114, 111, 114] := (Option.some.inj e1).symm
  subst en
  obtain rfl := Option.some.inj (errD_rtype.symm.trans e2)
  have hm : ty ∈ (List.range 218).filter fun t => Tryd.prog.rowNamed t [101, 114, 114, 111, 114] := List.mem_filter.2 ⟨List.mem_range.2 (by rw [← errD_types]; exact e3), e4⟩
  rw [errD_row] at hm
  obtain rfl := List.mem_singleton.1 hm
  have hh : typeHandle Tryd.prog 25 = .pointer (some ⟨9, 25, none⟩) := by kernel_rfl
  rw [hh] at e5
  unfold ErrT
  simpa using World.var?_cell errD_global e5 0

/-- The cells of a table of numbers, or of a table of such tables. -/
def cellsIn : DataW Unit → List Value
  | .agg l => l.flatMap fun
    | .lit (.int k n) => [.int k n]
    | .agg m => m.flatMap fun | .lit (.int k n) => [.int k n] | _ => []
    | _ => []
  | _ => []
def layAt (h : Array Obj) (g : Nat) (d : DataW Unit) : Array Obj := h.modify g fun
  | .cells _ t frozen => .cells (cellsIn d).toArray t frozen
  | o => o

/-- A world for the witness: the settled one, the listed variables laid. -/
noncomputable def decWorld (os : Os) : World :=
  { World.holding Tryd.prog os ⟨#[], #[], []⟩ with heap := (layAt (layAt (World.holding Tryd.prog os ⟨#[], #[], []⟩).heap 2 Rows.laid_unicode_utf8_acceptRanges) 1 Rows.laid_unicode_utf8_first).modify 0 fun
      | .cells _ t frozen => .cells #[.iface 133 (.agg #[.pointer (some ⟨9, 25, none⟩)])] t frozen
      | o => o }

set_option maxRecDepth 100000 in
/-- A number as an argument, opened. -/
theorem dec_open {H : Type} {enc : TypeId × Value → H} {W : World} {base b0 : Nat} {spare : Nat → Bool} {held : Bool} {r : Reach} {v : Value} {d : DataW H} {p : List MemPlace}
    (hv : Value.okWide Tryd.prog W r b0 23 v) (h : DataW.Trod enc Tryd.prog W base spare held 23 v d p) :
    ∃ (s : ByteArray) (q : Int) (c : Bool), v = dcV s q c ∧ d = .agg [.lit (.string s.data.toList), .lit (.int .i64 q), .lit (.bool c)] ∧ p = [] ∧ s.size ≤ maxLen ∧ (Lit.int .i64 q).wf = true := by
  obtain ⟨c0, c1, c2, y0, y1, y2, m, rfl, rfl, rfl, hy0, hy1, hy2⟩ := open_agg3 Tryd.underlying23 (by kernel_rfl) cellsD hv h
  obtain ⟨s, e0, rfl, w0⟩ := DataW.trod_string Tryd.underlying9 hy0
  obtain ⟨q, e1, rfl, w1⟩ := DataW.trod_int Tryd.underlying3 hy1
  obtain ⟨c, e2, rfl⟩ := DataW.trod_bool Tryd.underlying4 hy2
  simp at e0 e1 e2
  subst e0 e1 e2
  exact ⟨s, q, c, rfl, rfl, rfl, w0, w1⟩

set_option maxRecDepth 100000 in
/-- A number as an argument, shut. -/
theorem dec_shut {H : Type} {enc : TypeId × Value → H} {W : World} {base : Nat} {spare : Nat → Bool} {held : Bool} {s : ByteArray} {q : Int} {c : Bool} (w0 : s.size ≤ maxLen) (w1 : (Lit.int .i64 q).wf = true) :
    DataW.Trod enc Tryd.prog W base spare held 23 (dcV s q c) (.agg [.lit (.string s.data.toList), .lit (.int .i64 q), .lit (.bool c)]) [] :=
  shut_agg3 (y0 := (.lit (.string s.data.toList), [])) (y1 := (.lit (.int .i64 q), [])) (y2 := (.lit (.bool c), [])) Tryd.underlying23 (by kernel_rfl) cellsD ⟨1, by simp [DataW.trod, Tryd.underlying9, w0]⟩ ⟨1, by simp [DataW.trod, Tryd.underlying3, w1]⟩ ⟨1, by simp [DataW.trod, Tryd.underlying4]⟩

end Go.Proofs.YtladeppjccfbhaaDoor
