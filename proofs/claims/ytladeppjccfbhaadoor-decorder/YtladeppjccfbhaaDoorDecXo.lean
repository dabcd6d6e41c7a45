/-
  Decimal numbers as arguments, opened and shut; the listed variables; a world in which they lie.
-/
import Derived.Test.YtladeppjccfbhaaDoorDecTk
import Derived.Stop.LaidErr
import Derived.LaidSub
import Derived.Lib.AppendIntMem
import Derived.Test.YtladeppjccfbhaaDoorRows
import Derived.LaidLaws
import Derived.LaidHandle
import Derived.Stop.Joined
import Derived.ProofKit
import Derived.ChangeArms
import Derived.ChangeMaps5
import Derived.Lib.SmallJoins
import Derived.Lib.LaidTab
import Derived.Deep.DeepHandedRow
namespace Go.Proofs.YtladeppjccfbhaaDoor
open Go.ChangeShapes Go.WideShapes Go.ChangeAt Go.RowKit Go.Joins

theorem ownD : ownKnob Tryd.prog.godebug = none := by kernel_rfl
theorem cellsD : Tryd.prog.cellsOf 23 = 3 := by kernel_rfl

/-- The listed variables. -/
def decLaid : List (String × DataW Unit) := [("math/bits.deBruijn32tab", Rows.laid_math_bits_deBruijn32tab), ("math/bits.deBruijn64tab", Rows.laid_math_bits_deBruijn64tab), ("internal/strconv.uint64pow10", Rows.laid_internal_strconv_uint64pow10), ("unicode/utf8.acceptRanges", Rows.laid_unicode_utf8_acceptRanges), ("strconv.ErrRange", Rows.laid_strconv_ErrRange), ("strconv.ErrSyntax", Rows.laid_strconv_ErrSyntax), ("unicode/utf8.first", Rows.laid_unicode_utf8_first)]
theorem decLaid_plain : (decLaid.filter fun x => x.2.handleName?.isSome) = [] := by kernel_rfl

/-- The cells of a table of numbers, or of a table of such tables. -/
def cellsIn : DataW Unit → List Value
  | .agg l => l.flatMap fun
    | .lit (.int k n) => [.int k n]
    | .agg m => m.flatMap fun | .lit (.int k n) => [.int k n] | _ => []
    | _ => []
  | _ => []
def layAt (h : Array Obj) (g : Nat) (d : DataW Unit) : Array Obj := h.modify g fun
  | .cells _ t frozen => .cells (cellsIn d).toArray t frozen
  | o => o

/-- The bytes of a text's datum. -/
def bytesIn : DataW Unit → List UInt8
  | .iface _ (.ptr (.agg [.lit (.string b)])) => b
  | _ => []
/-- One of Atoi's errors, in a new block. -/
def errAt (h : Array Obj) (g : Nat) (d : DataW Unit) : Array Obj := (h.modify g fun
  | .cells _ t frozen => .cells #[.iface 186 (.pointer (some ⟨h.size, 0, none⟩))] t frozen
  | o => o).push (.cells #[.string ⟨(bytesIn d).toArray⟩] 188)

/-- A world for the witness: the settled one, the listed variables laid. -/
noncomputable def decWorld (os : Os) : World :=
  { World.holding Tryd.prog os ⟨#[], #[], []⟩ with heap := errAt (errAt (layAt (layAt (layAt (layAt (layAt ((World.holding Tryd.prog os ⟨#[], #[], []⟩).heap) 7 Rows.laid_math_bits_deBruijn32tab) 8 Rows.laid_math_bits_deBruijn64tab) 6 Rows.laid_internal_strconv_uint64pow10) 2 Rows.laid_unicode_utf8_acceptRanges) 1 Rows.laid_unicode_utf8_first) 5 Rows.laid_strconv_ErrRange) 4 Rows.laid_strconv_ErrSyntax }

theorem laidN {W : World} (h : laidMetH Tryd.prog decLaid W) : laidMet Tryd.prog decLaid W := by
  unfold laidMetH at h
  rw [decLaid_plain] at h
  exact h
theorem laid_HO {W : World} (h : laidMet Tryd.prog decLaid W) : laidMetH Tryd.prog decLaid W := by
  unfold laidMetH
  rw [decLaid_plain]
  exact h
theorem gPow : Tryd.prog.globalNamed "internal/strconv.uint64pow10" = some 6 := by kernel_rfl
theorem gPowType : (Tryd.prog.globals[6]?).map (·.type) = some 179 := by kernel_rfl
theorem cellsPow : Tryd.prog.cellsOf 179 = 20 := by kernel_rfl
theorem cellsU : Tryd.prog.cellsOf 40 = 1 := by kernel_rfl
theorem powData : (Rows.laid_internal_strconv_uint64pow10 : DataW Unit) = Lib.tabData .u64 Lib.pow10Tab := by rfl
theorem powOnly : (decLaid.filter fun x => x.1 == "internal/strconv.uint64pow10") = [("internal/strconv.uint64pow10", Rows.laid_internal_strconv_uint64pow10)] := by kernel_rfl
theorem pow_of {W : World} (h : laidMetH Tryd.prog decLaid W) : PowB W.heap.size W := by
  have q := (laidN h).filter fun x => x.1 == "internal/strconv.uint64pow10"
  rw [powOnly] at q
  have t : Pow W := Lib.tabIs_of_head (rest := []) gPow gPowType Tryd.underlying179 Tryd.underlying40 cellsU cellsPow (by rw [← powData]; exact q)
  intro w' hb
  exact Lib.tabBelow_of_tabIs t w' hb

theorem gErrS : Tryd.prog.globalNamed "strconv.ErrSyntax" = some 4 := by kernel_rfl
theorem gErrSType : (Tryd.prog.globals[4]?).map (·.type) = some 25 := by kernel_rfl
theorem gErrR : Tryd.prog.globalNamed "strconv.ErrRange" = some 5 := by kernel_rfl
theorem gErrRType : (Tryd.prog.globals[5]?).map (·.type) = some 25 := by kernel_rfl
theorem star_es : "*" ++ "errors.errorString" = "*errors.errorString" := by decide
theorem rowEs (u : TypeId) (h : Tryd.prog.typeName? 3 u = some "*errors.errorString") : u = 186 :=
  typeName_ptr_named (nm := "errors.errorString") (by rw [star_es]; kernel_rfl) (by kernel_rfl) (by decide) u (by rw [star_es]; exact h)
theorem cellsEs : Tryd.prog.cellsOf 188 = 1 := by kernel_rfl
theorem cellsSt : Tryd.prog.cellsOf 9 = 1 := by kernel_rfl
theorem errSOnly : (decLaid.filter fun x => x.1 == "strconv.ErrSyntax") = [("strconv.ErrSyntax", Rows.laid_strconv_ErrSyntax)] := by kernel_rfl
theorem errROnly : (decLaid.filter fun x => x.1 == "strconv.ErrRange") = [("strconv.ErrRange", Rows.laid_strconv_ErrRange)] := by kernel_rfl
theorem atoi_of {W : World} (h : laidMetH Tryd.prog decLaid W) : AtoiV W := by
  have q := (laidN h).filter fun x => x.1 == "strconv.ErrSyntax"
  rw [errSOnly] at q
  have r := (laidN h).filter fun x => x.1 == "strconv.ErrRange"
  rw [errROnly] at r
  obtain ⟨a, s, v, -, -, -⟩ := laid_sentinel q gErrS gErrSType Tryd.underlying25 rowEs Tryd.underlying186 Tryd.underlying188 rfl rfl Tryd.underlying9 cellsEs cellsSt
  obtain ⟨b, s', v', -, -, -⟩ := laid_sentinel r gErrR gErrRType Tryd.underlying25 rowEs Tryd.underlying186 Tryd.underlying188 rfl rfl Tryd.underlying9 cellsEs cellsSt
  exact ⟨⟨_, by simpa using World.var?_cell gErrS v 0, Or.inr ⟨_, _, rfl⟩⟩, ⟨_, by simpa using World.var?_cell gErrR v' 0, Or.inr ⟨_, _, rfl⟩⟩⟩

set_option maxRecDepth 100000 in
/-- A number as an argument, opened. -/
theorem dec_open {H : Type} {enc : TypeId × Value → H} {W : World} {base b0 : Nat} {spare : Nat → Bool} {held : Bool} {r : Reach} {v : Value} {d : DataW H} {p : List MemPlace}
    (hv : Value.okWide Tryd.prog W r b0 23 v) (h : DataW.Trod enc Tryd.prog W base spare held 23 v d p) :
    ∃ (s : ByteArray) (q : Int) (c : Bool), v = dcV s q c ∧ d = .agg [.lit (.string s.data.toList), .lit (.int .i64 q), .lit (.bool c)] ∧ p = [] ∧ s.size ≤ maxLen ∧ (Lit.int .i64 q).wf = true := by
  obtain ⟨c0, c1, c2, y0, y1, y2, m, rfl, rfl, rfl, hy0, hy1, hy2⟩ := open_agg3 Tryd.underlying23 (by kernel_rfl) cellsD hv h
  obtain ⟨s, e0, rfl, w0⟩ := DataW.trod_string Tryd.underlying9 hy0
  obtain ⟨q, e1, rfl, w1⟩ := DataW.trod_int Tryd.underlying3 hy1
  obtain ⟨c, e2, rfl⟩ := DataW.trod_bool Tryd.underlying4 hy2
  simp at e0 e1 e2
  subst e0 e1 e2
  exact ⟨s, q, c, rfl, rfl, rfl, w0, w1⟩

set_option maxRecDepth 100000 in
/-- A number as an argument, shut. -/
theorem dec_shut {H : Type} {enc : TypeId × Value → H} {W : World} {base : Nat} {spare : Nat → Bool} {held : Bool} {s : ByteArray} {q : Int} {c : Bool} (w0 : s.size ≤ maxLen) (w1 : (Lit.int .i64 q).wf = true) :
    DataW.Trod enc Tryd.prog W base spare held 23 (dcV s q c) (.agg [.lit (.string s.data.toList), .lit (.int .i64 q), .lit (.bool c)]) [] :=
  shut_agg3 (y0 := (.lit (.string s.data.toList), [])) (y1 := (.lit (.int .i64 q), [])) (y2 := (.lit (.bool c), [])) Tryd.underlying23 (by kernel_rfl) cellsD ⟨1, by simp [DataW.trod, Tryd.underlying9, w0]⟩ ⟨1, by simp [DataW.trod, Tryd.underlying3, w1]⟩ ⟨1, by simp [DataW.trod, Tryd.underlying4]⟩

end Go.Proofs.YtladeppjccfbhaaDoor
