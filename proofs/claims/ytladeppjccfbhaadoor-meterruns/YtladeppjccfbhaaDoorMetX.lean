/-
  Acts as arguments, opened and shut; the listed variables; a world in which they lie.
-/
import Derived.Test.YtladeppjccfbhaaDoorMetE
import Derived.Test.YtladeppjccfbhaaDoorRows
import Derived.ProofKit
import Derived.Lib.SmallJoins
import Derived.ChangeSlices
import Derived.Carry
import Derived.LaidLaws
import Derived.Lib.LaidTab
import Derived.Deep.DeepHandedRow
namespace Go.Proofs.YtladeppjccfbhaaDoor
open Go.ChangeShapes Go.WideShapes Go.ChangeAt Go.RowKit Go.Joins Go.Deep

theorem ownM : ownKnob Tryd.prog.godebug = none := by kernel_rfl
theorem laidOutM : laidOutB Tryd.prog = true := by kernel_rfl
theorem cellsInt : Tryd.prog.cellsOf 3 = 1 := by kernel_rfl
theorem cellsTally : Tryd.prog.cellsOf 56 = 5 := by kernel_rfl
theorem cellsAct : Tryd.prog.cellsOf 59 = 7 := by kernel_rfl

def metLaid : List (String × DataW Unit) := [("math/bits.deBruijn32tab", Rows.laid_math_bits_deBruijn32tab), ("math/bits.deBruijn64tab", Rows.laid_math_bits_deBruijn64tab), ("internal/strconv.uint64pow10", Rows.laid_internal_strconv_uint64pow10)]
theorem metLaid_plain : (metLaid.filter fun x => x.2.handleName?.isSome) = [] := by kernel_rfl
theorem laid_plainM {W : World} (h : laidMetH Tryd.prog metLaid W) : laidMet Tryd.prog metLaid W := by
  unfold laidMetH at h
  rw [metLaid_plain] at h
  exact h
theorem laid_HM {W : World} (h : laidMet Tryd.prog metLaid W) : laidMetH Tryd.prog metLaid W := by
  unfold laidMetH
  rw [metLaid_plain]
  exact h

/-- The cells of a table of numbers. -/
def cellsOfM : DataW Unit → List Value
  | .agg l => l.flatMap fun
    | .lit (.int k n) => [.int k n]
    | _ => []
  | _ => []
def layAtM (h : Array Obj) (g : Nat) (d : DataW Unit) : Array Obj := h.modify g fun
  | .cells _ t frozen => .cells (cellsOfM d).toArray t frozen
  | o => o

/-- A world for the witness: the settled one, the listed tables holding what the program's text lays. -/
noncomputable def metWorld (os : Os) : World :=
  { World.holding Tryd.prog os ⟨#[], #[], []⟩ with heap := layAtM (layAtM (layAtM (World.holding Tryd.prog os ⟨#[], #[], []⟩).heap 7 Rows.laid_math_bits_deBruijn32tab) 8 Rows.laid_math_bits_deBruijn64tab) 6 Rows.laid_internal_strconv_uint64pow10 }

theorem array7 {α : Type} {cs : Array α} (h : cs.size = 7) : ∃ c0 c1 c2 c3 c4 c5 c6, cs = #[c0, c1, c2, c3, c4, c5, c6] := by
  obtain ⟨l⟩ := cs
  match l, h with
  | [c0, c1, c2, c3, c4, c5, c6], _ => exact ⟨c0, c1, c2, c3, c4, c5, c6, rfl⟩

section
variable {H : Type} {enc : TypeId × Value → H} {P : Program} {w : World} {base : Nat} {spare : Nat → Bool} {held : Bool}
theorem struct5 {t : TypeId} {f0 f1 f2 f3 f4 : Field} {fuel : Nat} {cs : List Value} {x : DataW H × List MemPlace} (ht : P.underlying t = some (.struct #[f0, f1, f2, f3, f4])) (h : DataW.trod enc P w base spare held fuel t cs = some x) :
    ∃ y0 y1 y2 y3 y4 n, x = (.agg [y0.1, y1.1, y2.1, y3.1, y4.1], y0.2 ++ (y1.2 ++ (y2.2 ++ (y3.2 ++ y4.2)))) ∧ DataW.trod enc P w base spare held n f0.type ((cs.drop f0.offset).take (P.cellsOf f0.type)) = some y0 ∧
      DataW.trod enc P w base spare held n f1.type ((cs.drop f1.offset).take (P.cellsOf f1.type)) = some y1 ∧ DataW.trod enc P w base spare held n f2.type ((cs.drop f2.offset).take (P.cellsOf f2.type)) = some y2 ∧
      DataW.trod enc P w base spare held n f3.type ((cs.drop f3.offset).take (P.cellsOf f3.type)) = some y3 ∧ DataW.trod enc P w base spare held n f4.type ((cs.drop f4.offset).take (P.cellsOf f4.type)) = some y4 := by
  obtain ⟨xs, n, _, rfl, _, hlen, hf⟩ := DataW.trod_struct ht h
  match xs, hlen with
  | [y0, y1, y2, y3, y4], _ => exact ⟨y0, y1, y2, y3, y4, n, by simp, by simpa using hf 0 f0 rfl, by simpa using hf 1 f1 rfl, by simpa using hf 2 f2 rfl, by simpa using hf 3 f3 rfl, by simpa using hf 4 f4 rfl⟩
end

/-- An act's datum. -/
def aD {H : Type} (k n l p e t s : Int) : DataW H := .agg [.lit (.int .i64 k), .lit (.int .i64 n), .agg [.lit (.int .i64 l), .lit (.int .i64 p), .lit (.int .i64 e), .lit (.int .i64 t), .lit (.int .i64 s)]]

set_option maxRecDepth 100000 in
theorem act_open {H : Type} {enc : TypeId × Value → H} {W : World} {base fuel : Nat} {spare : Nat → Bool} {held : Bool} {c0 c1 c2 c3 c4 c5 c6 : Value} {x : DataW H × List MemPlace}
    (hf : DataW.trod enc Tryd.prog W base spare held fuel 59 [c0, c1, c2, c3, c4, c5, c6] = some x) :
    ∃ k n l p e t s : Int, ([c0, c1, c2, c3, c4, c5, c6] : List Value) = [.int .i64 k, .int .i64 n, .int .i64 l, .int .i64 p, .int .i64 e, .int .i64 t, .int .i64 s] ∧ x = (aD k n l p e t s, []) ∧
      (Lit.int .i64 k).wf = true ∧ (Lit.int .i64 n).wf = true ∧ (Lit.int .i64 l).wf = true ∧ (Lit.int .i64 p).wf = true ∧ (Lit.int .i64 e).wf = true ∧ (Lit.int .i64 t).wf = true ∧ (Lit.int .i64 s).wf = true := by
  obtain ⟨y0, y1, y2, n0, rfl, _, h0, h1, h2⟩ := trod_struct3 Tryd.underlying59 hf
  simp only [cellsInt, cellsTally, List.drop_zero, List.drop_succ_cons, List.take_succ_cons, List.take_zero] at h0 h1 h2
  obtain ⟨k, e0, rfl, w0⟩ := DataW.trod_int Tryd.underlying3 h0
  obtain ⟨n, e1, rfl, w1⟩ := DataW.trod_int Tryd.underlying3 h1
  obtain ⟨z0, z1, z2, z3, z4, n1, rfl, g0, g1, g2, g3, g4⟩ := struct5 Tryd.underlying56 h2
  simp only [cellsInt, List.drop_zero, List.drop_succ_cons, List.take_succ_cons, List.take_zero] at g0 g1 g2 g3 g4
  obtain ⟨l, i0, rfl, u0⟩ := DataW.trod_int Tryd.underlying3 g0
  obtain ⟨p, i1, rfl, u1⟩ := DataW.trod_int Tryd.underlying3 g1
  obtain ⟨e, i2, rfl, u2⟩ := DataW.trod_int Tryd.underlying3 g2
  obtain ⟨t, i3, rfl, u3⟩ := DataW.trod_int Tryd.underlying3 g3
  obtain ⟨s, i4, rfl, u4⟩ := DataW.trod_int Tryd.underlying3 g4
  simp at e0 e1 i0 i1 i2 i3 i4
  subst e0 e1 i0 i1 i2 i3 i4
  exact ⟨k, n, l, p, e, t, s, rfl, rfl, w0, w1, u0, u1, u2, u3, u4⟩

theorem max_of_wf {x : Int} (h : (Lit.int .i64 x).wf = true) : x ≤ 9223372036854775807 := by
  simp [Lit.wf, IntKind.min, IntKind.max, IntKind.signed, IntKind.bits] at h
  omega

end Go.Proofs.YtladeppjccfbhaaDoor
