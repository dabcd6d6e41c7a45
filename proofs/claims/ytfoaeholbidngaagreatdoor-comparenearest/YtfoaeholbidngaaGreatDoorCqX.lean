/-
  For the rows of layer 16: decimals as arguments, opened and shut; math/bits' table out of the listed variables; a world in which the listed variables lie.
-/
import Derived.Test.YtfoaeholbidngaaGreatDoorCp1
import Derived.Test.YtfoaeholbidngaaGreatDoorEx5
import Derived.Test.YtfoaeholbidngaaGreatDoorRows
import Derived.ProofKit
import Derived.LaidHandle
import Derived.Stop.Joined
import Derived.ChangeArms
import Derived.ChangeMaps5
import Derived.Lib.SmallJoins
import Derived.ChangeSlices
import Derived.Carry
import Derived.LaidLaws
import Derived.Lib.LaidTab
import Derived.Deep.DeepHandedRow
namespace Go.Proofs.YtfoaeholbidngaaGreatDoor
open Go.ChangeShapes Go.WideShapes Go.ChangeAt Go.RowKit Go.Joins

theorem ownD : ownKnob Tryz.prog.godebug = none := by kernel_rfl
theorem cellsD : Tryz.prog.cellsOf 23 = 3 := by kernel_rfl
theorem nat_of_u64 {x : Int} (h : (Lit.int .u64 x).wf = true) : ∃ n : Nat, x = (n : Int) ∧ n < 18446744073709551616 := by
  simp [Lit.wf, IntKind.min, IntKind.max, IntKind.signed, IntKind.bits] at h
  exact ⟨x.toNat, by omega, by omega⟩
theorem gTab : Tryz.prog.globalNamed "math/bits.deBruijn64tab" = some 0 := by kernel_rfl
theorem gTabType : (Tryz.prog.globals[0]?).map (·.type) = some 172 := by kernel_rfl
theorem cellsTab : Tryz.prog.cellsOf 172 = 64 := by kernel_rfl
theorem cells5 : Tryz.prog.cellsOf 5 = 1 := by kernel_rfl

def natLaid : List (String × DataW Unit) := [("math/bits.deBruijn64tab", Rows.laid_math_bits_deBruijn64tab), ("unicode/utf8.acceptRanges", Rows.laid_unicode_utf8_acceptRanges), ("unicode/utf8.first", Rows.laid_unicode_utf8_first)]
theorem natLaid_plain : (natLaid.filter fun x => x.2.handleName?.isSome) = [] := by kernel_rfl
theorem laid_plain {W : World} (h : laidMetH Tryz.prog natLaid W) : laidMet Tryz.prog natLaid W := by
  unfold laidMetH at h
  rw [natLaid_plain] at h
  exact h
theorem laid_H {W : World} (h : laidMet Tryz.prog natLaid W) : laidMetH Tryz.prog natLaid W := by
  unfold laidMetH
  rw [natLaid_plain]
  exact h

theorem table {W : World} (h : laidMetH Tryz.prog natLaid W) : Lib.TabIs Tryz.prog W "math/bits.deBruijn64tab" .u8 (Lib.deBruijn64tab.map Int.ofNat) :=
  Lib.tabIs_of_head (rest := [("unicode/utf8.acceptRanges", Rows.laid_unicode_utf8_acceptRanges), ("unicode/utf8.first", Rows.laid_unicode_utf8_first)]) gTab gTabType Tryz.underlying172 Tryz.underlying5 cells5 cellsTab (laid_plain h)

theorem tab_of {W : World} (h : laidMetH Tryz.prog natLaid W) : Tab W := by
  intro j hj
  have c := (table h).cell gTab j (by rw [List.length_map]; exact hj)
  rw [c]
  congr 2
  rw [List.getD_eq_getElem?_getD, List.getD_eq_getElem?_getD, List.getElem?_map]
  have l : j < Lib.deBruijn64tab.length := hj
  rw [List.getElem?_eq_getElem l]
  rfl

/-- The cells of a table of numbers, or of a table of such tables. -/
def cellsIn : DataW Unit → List Value
  | .agg l => l.flatMap fun
    | .lit (.int k n) => [.int k n]
    | .agg m => m.flatMap fun | .lit (.int k n) => [.int k n] | _ => []
    | _ => []
  | _ => []
def layAt (h : Array Obj) (g : Nat) (d : DataW Unit) : Array Obj := h.modify g fun
  | .cells _ t frozen => .cells (cellsIn d).toArray t frozen
  | o => o

/-- A world for the witness: the settled one, the listed tables holding what the program's text lays. -/
noncomputable def natWorld (os : Os) : World :=
  { World.holding Tryz.prog os ⟨#[], #[], []⟩ with heap := layAt (layAt (layAt (World.holding Tryz.prog os ⟨#[], #[], []⟩).heap 0 Rows.laid_math_bits_deBruijn64tab) 2 Rows.laid_unicode_utf8_acceptRanges) 1 Rows.laid_unicode_utf8_first }

set_option maxRecDepth 100000 in
/-- A number as an argument, opened. -/
theorem dec_open {H : Type} {enc : TypeId × Value → H} {W : World} {base b0 : Nat} {spare : Nat → Bool} {held : Bool} {r : Reach} {v : Value} {d : DataW H} {p : List MemPlace}
    (hv : Value.okWide Tryz.prog W r b0 23 v) (h : DataW.Trod enc Tryz.prog W base spare held 23 v d p) :
    ∃ (s : ByteArray) (q : Int) (c : Bool), v = dcV s q c ∧ d = .agg [.lit (.string s.data.toList), .lit (.int .i64 q), .lit (.bool c)] ∧ p = [] ∧ s.size ≤ maxLen ∧ (Lit.int .i64 q).wf = true := by
  obtain ⟨c0, c1, c2, y0, y1, y2, m, rfl, rfl, rfl, hy0, hy1, hy2⟩ := open_agg3 Tryz.underlying23 (by kernel_rfl) cellsD hv h
  obtain ⟨s, e0, rfl, w0⟩ := DataW.trod_string Tryz.underlying9 hy0
  obtain ⟨q, e1, rfl, w1⟩ := DataW.trod_int Tryz.underlying3 hy1
  obtain ⟨c, e2, rfl⟩ := DataW.trod_bool Tryz.underlying4 hy2
  simp at e0 e1 e2
  subst e0 e1 e2
  exact ⟨s, q, c, rfl, rfl, rfl, w0, w1⟩

set_option maxRecDepth 100000 in
/-- A number as an argument, shut. -/
theorem dec_shut {H : Type} {enc : TypeId × Value → H} {W : World} {base : Nat} {spare : Nat → Bool} {held : Bool} {s : ByteArray} {q : Int} {c : Bool} (w0 : s.size ≤ maxLen) (w1 : (Lit.int .i64 q).wf = true) :
    DataW.Trod enc Tryz.prog W base spare held 23 (dcV s q c) (.agg [.lit (.string s.data.toList), .lit (.int .i64 q), .lit (.bool c)]) [] :=
  shut_agg3 (y0 := (.lit (.string s.data.toList), [])) (y1 := (.lit (.int .i64 q), [])) (y2 := (.lit (.bool c), [])) Tryz.underlying23 (by kernel_rfl) cellsD ⟨1, by simp [DataW.trod, Tryz.underlying9, w0]⟩ ⟨1, by simp [DataW.trod, Tryz.underlying3, w1]⟩ ⟨1, by simp [DataW.trod, Tryz.underlying4]⟩

end Go.Proofs.YtfoaeholbidngaaGreatDoor
