/-
  Holds: SoX.
-/
import Derived.Test.YtblkokjkmbpejaaGreatDoorRows
import Derived.Laws.Externs
import Derived.WalkKit
import Derived.WalkSpells
import Derived.WalkLawsBesides
import Derived.Lib.Mul64
import Derived.Stop.Asserts
import Derived.RowKitTokens
import Derived.LaidLaws
import Derived.LaidHandle
import Derived.Stop.Joined
import Derived.ProofKit
import Derived.Lib.SmallJoins
import Derived.Deep.DeepHandedRow
import Derived.Test.YtblkokjkmbpejaaGreatDoorKd1
set_option maxRecDepth 100000
set_option maxHeartbeats 4000000
namespace Go.Proofs.YtblkokjkmbpejaaGreatDoor
open Go.ChangeShapes Go.WideShapes Go.ChangeAt Go.RowKit Go.Joins
theorem ownD : ownKnob Tryz.prog.godebug = none := by kernel_rfl
theorem cellsD : Tryz.prog.cellsOf 24 = 3 := by kernel_rfl
def soLaid : List (String × DataW Unit) := [("unicode/utf8.acceptRanges", Rows.laid_unicode_utf8_acceptRanges), ("unicode/utf8.first", Rows.laid_unicode_utf8_first)]
theorem soLaid_h : (soLaid.filter fun x => x.2.handleName?.isSome) = [] := by kernel_rfl
theorem soLaid_n : (soLaid.filter fun x => x.2.handleName?.isNone) = [("unicode/utf8.acceptRanges", Rows.laid_unicode_utf8_acceptRanges), ("unicode/utf8.first", Rows.laid_unicode_utf8_first)] := by kernel_rfl
def cellsIn : DataW Unit → List Value
  | .agg l => l.flatMap fun
    | .lit (.int k n) => [.int k n]
    | .agg m => m.flatMap fun | .lit (.int k n) => [.int k n] | _ => []
    | _ => []
  | _ => []
def layAt (h : Array Obj) (g : Nat) (d : DataW Unit) : Array Obj := h.modify g fun
 | .cells _ t frozen => .cells (cellsIn d).toArray t frozen
 | o => o
noncomputable def soWorld (os : Os) : World :=
 { World.holding Tryz.prog os ⟨#[], #[], []⟩ with heap := layAt (layAt (World.holding Tryz.prog os ⟨#[], #[], []⟩).heap 4 Rows.laid_unicode_utf8_acceptRanges) 3 Rows.laid_unicode_utf8_first }
theorem dec_open {H : Type} {enc : TypeId × Value → H} {W : World} {base b0 : Nat} {spare : Nat → Bool} {held : Bool} {r : Reach} {v : Value} {d : DataW H} {p : List MemPlace}
 (hv : Value.okWide Tryz.prog W r b0 24 v) (h : DataW.Trod enc Tryz.prog W base spare held 24 v d p) :
 ∃ (s : ByteArray) (q : Int) (c : Bool), v = dcV s q c ∧ d = .agg [.lit (.string s.data.toList), .lit (.int .i64 q), .lit (.bool c)] ∧ p = [] ∧ s.size ≤ maxLen ∧ (Lit.int .i64 q).wf = true := by
 obtain ⟨c0, c1, c2, y0, y1, y2, m, rfl, rfl, rfl, hy0, hy1, hy2⟩ := open_agg3 Tryz.underlying24 (by kernel_rfl) cellsD hv h
 obtain ⟨s, e0, rfl, w0⟩ := DataW.trod_string Tryz.underlying9 hy0
 obtain ⟨q, e1, rfl, w1⟩ := DataW.trod_int Tryz.underlying3 hy1
 obtain ⟨c, e2, rfl⟩ := DataW.trod_bool Tryz.underlying4 hy2
 simp at e0 e1 e2
 subst e0 e1 e2
 exact ⟨s, q, c, rfl, rfl, rfl, w0, w1⟩
theorem dec_shut {H : Type} {enc : TypeId × Value → H} {W : World} {base : Nat} {spare : Nat → Bool} {held : Bool} {s : ByteArray} {q : Int} {c : Bool} (w0 : s.size ≤ maxLen) (w1 : (Lit.int .i64 q).wf = true) :
 DataW.Trod enc Tryz.prog W base spare held 24 (dcV s q c) (.agg [.lit (.string s.data.toList), .lit (.int .i64 q), .lit (.bool c)]) [] :=
 shut_agg3 (y0 := (.lit (.string s.data.toList), [])) (y1 := (.lit (.int .i64 q), [])) (y2 := (.lit (.bool c), [])) Tryz.underlying24 (by kernel_rfl) cellsD ⟨1, by simp [DataW.trod, Tryz.underlying9, w0]⟩ ⟨1, by simp [DataW.trod, Tryz.underlying3, w1]⟩ ⟨1, by simp [DataW.trod, Tryz.underlying4]⟩
end Go.Proofs.YtblkokjkmbpejaaGreatDoor
