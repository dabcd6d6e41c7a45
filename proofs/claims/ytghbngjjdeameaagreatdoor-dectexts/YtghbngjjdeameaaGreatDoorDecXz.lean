/-
  Decimal numbers as arguments, opened and shut; the listed variables; a world in which they lie.
-/
import Derived.Test.YtghbngjjdeameaaGreatDoorAs3
import Derived.Test.YtghbngjjdeameaaGreatDoorDecTk
import Derived.Stop.LaidErr
import Derived.LaidSub
import Derived.Lib.AppendIntMem
import Derived.Test.YtghbngjjdeameaaGreatDoorRows
import Derived.LaidLaws
import Derived.LaidHandle
import Derived.Stop.Joined
import Derived.ProofKit
import Derived.ChangeArms
import Derived.ChangeMaps5
import Derived.Lib.SmallJoins
import Derived.Lib.LaidTab
import Derived.Deep.DeepHandedRow
namespace Go.Proofs.YtghbngjjdeameaaGreatDoor
open Go.ChangeShapes Go.WideShapes Go.ChangeAt Go.RowKit Go.Joins

theorem ownD : ownKnob Tryz.prog.godebug = none := by kernel_rfl
theorem cellsD : Tryz.prog.cellsOf 23 = 3 := by kernel_rfl

/-- The listed variables. -/
def decLaid : List (String × DataW Unit) := [("math/bits.deBruijn32tab", Rows.laid_math_bits_deBruijn32tab), ("math/bits.deBruijn64tab", Rows.laid_math_bits_deBruijn64tab), ("internal/strconv.uint64pow10", Rows.laid_internal_strconv_uint64pow10), ("unicode/utf8.acceptRanges", Rows.laid_unicode_utf8_acceptRanges), ("errors.errorType", Rows.laid_errors_errorType), ("strconv.ErrRange", Rows.laid_strconv_ErrRange), ("strconv.ErrSyntax", Rows.laid_strconv_ErrSyntax), ("unicode/utf8.first", Rows.laid_unicode_utf8_first)]
theorem decLaid_h : (decLaid.filter fun x => x.2.handleName?.isSome) = [("errors.errorType", Rows.laid_errors_errorType)] := by kernel_rfl
theorem decLaid_n : (decLaid.filter fun x => x.2.handleName?.isNone) = [("math/bits.deBruijn32tab", Rows.laid_math_bits_deBruijn32tab), ("math/bits.deBruijn64tab", Rows.laid_math_bits_deBruijn64tab), ("internal/strconv.uint64pow10", Rows.laid_internal_strconv_uint64pow10), ("unicode/utf8.acceptRanges", Rows.laid_unicode_utf8_acceptRanges), ("strconv.ErrRange", Rows.laid_strconv_ErrRange), ("strconv.ErrSyntax", Rows.laid_strconv_ErrSyntax), ("unicode/utf8.first", Rows.laid_unicode_utf8_first)] := by kernel_rfl

theorem errD_global : Tryz.prog.globalNamed "errors.errorType" = some 0 := by kernel_rfl
theorem errD_rtype : (Tryz.prog.cutTypes.find? (·.1 == "internal/reflectlite.rtype")).map (·.2) = some 87 := by kernel_rfl
theorem errD_row : ((List.range 184).filter fun t => Tryz.prog.rowNamed t [101, 114, 114, 111, 114]) = [25] := by kernel_rfl
theorem errD_types : Tryz.prog.types.size = 184 := by kernel_rfl

theorem errD_of {W : World} (h : laidMetH Tryz.prog decLaid W) : ErrT W := by
  unfold laidMetH at h
  rw [decLaid_h] at h
  obtain ⟨name, u, ty, e1, e2, e3, e4, e5⟩ := h.2 _ (List.mem_singleton.2 rfl)
  have en : name = [101, 114, 114, 111, 114] := (Option.some.inj e1).symm
  subst en
  obtain rfl := Option.some.inj (errD_rtype.symm.trans e2)
  have hm : ty ∈ (List.range 184).filter fun t => Tryz.prog.rowNamed t [101, 114, 114, 111, 114] := List.mem_filter.2 ⟨List.mem_range.2 (by rw [← errD_types]; exact e3), e4⟩
  rw [errD_row] at hm
  obtain rfl := List.mem_singleton.1 hm
  have hh : typeHandle Tryz.prog 25 = .pointer (some ⟨9, 25, none⟩) := by kernel_rfl
  rw [hh] at e5
  unfold ErrT
  simpa using World.var?_cell errD_global e5 0

/-- The cells of a table of numbers, or of a table of such tables. -/
def cellsIn : DataW Unit → List Value
  | .agg l => l.flatMap fun
    | .lit (.int k n) => [.int k n]
    | .agg m => m.flatMap fun | .lit (.int k n) => [.int k n] | _ => []
    | _ => []
  | _ => []
def layAt (h : Array Obj) (g : Nat) (d : DataW Unit) : Array Obj := h.modify g fun
  | .cells _ t frozen => .cells (cellsIn d).toArray t frozen
  | o => o

/-- The bytes of a text's datum. -/
def bytesIn : DataW Unit → List UInt8
  | .iface _ (.ptr (.agg [.lit (.string b)])) => b
  | _ => []
/-- One of Atoi's errors, in a new block. -/
def errAt (h : Array Obj) (g : Nat) (d : DataW Unit) : Array Obj := (h.modify g fun
  | .cells _ t frozen => .cells #[.iface 145 (.pointer (some ⟨h.size, 0, none⟩))] t frozen
  | o => o).push (.cells #[.string ⟨(bytesIn d).toArray⟩] 147)

/-- The variable errors.errorType laid. -/
def typeAt (h : Array Obj) : Array Obj := h.modify 0 fun
  | .cells _ t frozen => .cells #[.iface 87 (.agg #[.pointer (some ⟨9, 25, none⟩)])] t frozen
  | o => o
/-- A world for the witness: the settled one, the listed variables laid. -/
noncomputable def decWorld (os : Os) : World :=
  { World.holding Tryz.prog os ⟨#[], #[], []⟩ with heap := errAt (errAt (typeAt (layAt (layAt (layAt (layAt (layAt ((World.holding Tryz.prog os ⟨#[], #[], []⟩).heap) 7 Rows.laid_math_bits_deBruijn32tab) 8 Rows.laid_math_bits_deBruijn64tab) 4 Rows.laid_internal_strconv_uint64pow10) 6 Rows.laid_unicode_utf8_acceptRanges) 5 Rows.laid_unicode_utf8_first)) 3 Rows.laid_strconv_ErrRange) 2 Rows.laid_strconv_ErrSyntax }

theorem laidN {W : World} (h : laidMetH Tryz.prog decLaid W) : laidMet Tryz.prog (decLaid.filter fun x => x.2.handleName?.isNone) W := by
  unfold laidMetH at h
  exact h.1
theorem gPow : Tryz.prog.globalNamed "internal/strconv.uint64pow10" = some 4 := by kernel_rfl
theorem gPowType : (Tryz.prog.globals[4]?).map (·.type) = some 136 := by kernel_rfl
theorem cellsPow : Tryz.prog.cellsOf 136 = 20 := by kernel_rfl
theorem cellsU : Tryz.prog.cellsOf 52 = 1 := by kernel_rfl
theorem powData : (Rows.laid_internal_strconv_uint64pow10 : DataW Unit) = Lib.tabData .u64 Lib.pow10Tab := by rfl
theorem powOnly : ((decLaid.filter fun x => x.2.handleName?.isNone).filter fun x => x.1 == "internal/strconv.uint64pow10") = [("internal/strconv.uint64pow10", Rows.laid_internal_strconv_uint64pow10)] := by kernel_rfl
theorem pow_of {W : World} (h : laidMetH Tryz.prog decLaid W) : PowB W.heap.size W := by
  have q := (laidN h).filter fun x => x.1 == "internal/strconv.uint64pow10"
  rw [powOnly] at q
  have t : Pow W := Lib.tabIs_of_head (rest := []) gPow gPowType Tryz.underlying136 Tryz.underlying52 cellsU cellsPow (by rw [← powData]; exact q)
  intro w' hb
  exact Lib.tabBelow_of_tabIs t w' hb

theorem gErrS : Tryz.prog.globalNamed "strconv.ErrSyntax" = some 2 := by kernel_rfl
theorem gErrSType : (Tryz.prog.globals[2]?).map (·.type) = some 25 := by kernel_rfl
theorem gErrR : Tryz.prog.globalNamed "strconv.ErrRange" = some 3 := by kernel_rfl
theorem gErrRType : (Tryz.prog.globals[3]?).map (·.type) = some 25 := by kernel_rfl
theorem star_es : "*" ++ "errors.errorString" = "*errors.errorString" := by decide
theorem rowEs (u : TypeId) (h : Tryz.prog.typeName? 3 u = some "*errors.errorString") : u = 145 :=
  typeName_ptr_named (nm := "errors.errorString") (by rw [star_es]; kernel_rfl) (by kernel_rfl) (by decide) u (by rw [star_es]; exact h)
theorem cellsEs : Tryz.prog.cellsOf 147 = 1 := by kernel_rfl
theorem cellsSt : Tryz.prog.cellsOf 9 = 1 := by kernel_rfl
theorem errSOnly : ((decLaid.filter fun x => x.2.handleName?.isNone).filter fun x => x.1 == "strconv.ErrSyntax") = [("strconv.ErrSyntax", Rows.laid_strconv_ErrSyntax)] := by kernel_rfl
theorem errROnly : ((decLaid.filter fun x => x.2.handleName?.isNone).filter fun x => x.1 == "strconv.ErrRange") = [("strconv.ErrRange", Rows.laid_strconv_ErrRange)] := by kernel_rfl
theorem atoi_of {W : World} (h : laidMetH Tryz.prog decLaid W) : AtoiV W := by
  have q := (laidN h).filter fun x => x.1 == "strconv.ErrSyntax"
  rw [errSOnly] at q
  have r := (laidN h).filter fun x => x.1 == "strconv.ErrRange"
  rw [errROnly] at r
  obtain ⟨a, s, v, -, -, -⟩ := laid_sentinel q gErrS gErrSType Tryz.underlying25 rowEs Tryz.underlying145 Tryz.underlying147 rfl rfl Tryz.underlying9 cellsEs cellsSt
  obtain ⟨b, s', v', -, -, -⟩ := laid_sentinel r gErrR gErrRType Tryz.underlying25 rowEs Tryz.underlying145 Tryz.underlying147 rfl rfl Tryz.underlying9 cellsEs cellsSt
  exact ⟨⟨_, by simpa using World.var?_cell gErrS v 0, Or.inr ⟨_, _, rfl⟩⟩, ⟨_, by simpa using World.var?_cell gErrR v' 0, Or.inr ⟨_, _, rfl⟩⟩⟩

set_option maxRecDepth 100000 in
/-- A number as an argument, opened. -/
theorem dec_open {H : Type} {enc : TypeId × Value → H} {W : World} {base b0 : Nat} {spare : Nat → Bool} {held : Bool} {r : Reach} {v : Value} {d : DataW H} {p : List MemPlace}
    (hv : Value.okWide Tryz.prog W r b0 23 v) (h : DataW.Trod enc Tryz.prog W base spare held 23 v d p) :
    ∃ (s : ByteArray) (q : Int) (c : Bool), v = dcV s q c ∧ d = .agg [.lit (.string s.data.toList), .lit (.int .i64 q), .lit (.bool c)] ∧ p = [] ∧ s.size ≤ maxLen ∧ (Lit.int .i64 q).wf = true := by
  obtain ⟨c0, c1, c2, y0, y1, y2, m, rfl, rfl, rfl, hy0, hy1, hy2⟩ := open_agg3 Tryz.underlying23 (by kernel_rfl) cellsD hv h
  obtain ⟨s, e0, rfl, w0⟩ := DataW.trod_string Tryz.underlying9 hy0
  obtain ⟨q, e1, rfl, w1⟩ := DataW.trod_int Tryz.underlying3 hy1
  obtain ⟨c, e2, rfl⟩ := DataW.trod_bool Tryz.underlying4 hy2
  simp at e0 e1 e2
  subst e0 e1 e2
  exact ⟨s, q, c, rfl, rfl, rfl, w0, w1⟩

set_option maxRecDepth 100000 in
/-- A number as an argument, shut. -/
theorem dec_shut {H : Type} {enc : TypeId × Value → H} {W : World} {base : Nat} {spare : Nat → Bool} {held : Bool} {s : ByteArray} {q : Int} {c : Bool} (w0 : s.size ≤ maxLen) (w1 : (Lit.int .i64 q).wf = true) :
    DataW.Trod enc Tryz.prog W base spare held 23 (dcV s q c) (.agg [.lit (.string s.data.toList), .lit (.int .i64 q), .lit (.bool c)]) [] :=
  shut_agg3 (y0 := (.lit (.string s.data.toList), [])) (y1 := (.lit (.int .i64 q), [])) (y2 := (.lit (.bool c), [])) Tryz.underlying23 (by kernel_rfl) cellsD ⟨1, by simp [DataW.trod, Tryz.underlying9, w0]⟩ ⟨1, by simp [DataW.trod, Tryz.underlying3, w1]⟩ ⟨1, by simp [DataW.trod, Tryz.underlying4]⟩

end Go.Proofs.YtghbngjjdeameaaGreatDoor
