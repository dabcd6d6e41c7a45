/-
  For the rows over nat: a slice of words that is handed in, opened; math/bits' table out of the listed variables; a world in which the listed variables lie.
-/
import Derived.Test.YtkkgancmodhghaaDoorNatZ
import Derived.Test.YtkkgancmodhghaaDoorNatB
import Derived.Test.YtkkgancmodhghaaDoorRows
import Derived.ProofKit
import Derived.Lib.SmallJoins
import Derived.ChangeSlices
import Derived.Carry
import Derived.LaidLaws
import Derived.Lib.LaidTab
import Derived.Deep.DeepHandedRow
namespace Go.Proofs.YtkkgancmodhghaaDoor
open Go.ChangeShapes Go.WideShapes Go.ChangeAt Go.RowKit Go.Joins

theorem own' : ownKnob Tryd.prog.godebug = none := by kernel_rfl
theorem laidOut' : laidOutB Tryd.prog = true := by kernel_rfl
theorem cellsU64 : Tryd.prog.cellsOf 35 = 1 := by kernel_rfl

theorem wordNat_of_wf {x : Int} (h : (Lit.int .u64 x).wf = true) : 0 ≤ x ∧ x < 2 ^ 64 := by
  simp [Lit.wf, IntKind.min, IntKind.max, IntKind.signed, IntKind.bits] at h
  exact ⟨by omega, by omega⟩

set_option maxRecDepth 100000 in
theorem sl_open {H : Type} {enc : TypeId × Value → H} {W : World} {base : Nat} {v : Value} {d : DataW H} {ps : List MemPlace}
    (hv : Value.okWide Tryd.prog W .any base 22 v) (h : DataW.Trod enc Tryd.prog W 0 (fun _ => true) true 22 v d ps) :
    ∃ ao n c b o f, v = .slice ao n c ∧ Sl W ao n c b o f := by
  obtain ⟨a0, n, c, rfl⟩ := okWide_slice Tryd.underlying22 hv
  obtain ⟨fuel, hf⟩ := h
  rcases open_ints Tryd.underlying22 Tryd.underlying35 cellsU64 hf with ⟨hcs, hx⟩ | ⟨a, len', cap', zs, hcs, _, hl, hm, hz, hx, hcell, hwz⟩
  · simp [Value.cells] at hcs
    obtain ⟨rfl, rfl, rfl⟩ := hcs
    exact ⟨_, _, _, 0, 0, fun _ => 0, rfl, by omega, by unfold maxLen; omega, fun h => by omega, fun h => by omega, fun i hi => by omega, fun i => B_pos⟩
  · simp [Value.cells] at hcs
    obtain ⟨rfl, rfl, rfl⟩ := hcs
    simp only [if_true] at hz
    have sp : 0 < n → a.spot = none := by
      intro h
      have q := hcell 0 (by omega)
      cases s : a.spot with
      | none => rfl
      | some k =>
        simp only [Addr.add, if_pos] at q
        unfold World.cell? at q
        rw [s] at q
        split at q
        · simp at q
        · cases q
    have ad : 0 < n → a = ⟨a.block, a.off, none⟩ := fun h => by
      have := sp h
      cases a
      simp only at this
      subst this
      rfl
    have cl : ∀ i, i < n → W.cell? ⟨a.block, a.off + i, none⟩ = some (.int .u64 (zs.getD i 0)) := by
      intro i hi
      have q := hcell i (by omega)
      unfold Addr.add at q
      split at q
      · rename_i hi0
        subst hi0
        rw [ad (by omega)] at q
        exact q
      · exact q
    have wd : ∀ i, i < n → 0 ≤ zs.getD i 0 ∧ zs.getD i 0 < 2 ^ 64 := by
      intro i hi
      refine wordNat_of_wf (hwz _ ?_)
      have : zs.getD i 0 = zs[i]'(by omega) := by simp [List.getD, show i < zs.length by omega]
      rw [this]
      exact List.getElem_mem _
    refine ⟨_, _, _, a.block, a.off, fun i => if i < n then (zs.getD i 0).toNat else 0, rfl, hl, hm, fun h => by rw [← ad h], fun h => ?_, fun i hi => ?_, fun i => ?_⟩
    · exact World.block_lt_of_cell? W ⟨a.block, a.off + 0, none⟩ (cl 0 h)
    · rw [cl i hi]
      simp only [if_pos hi]
      rw [Int.toNat_of_nonneg (wd i hi).1]
    · show (if i < n then (zs.getD i 0).toNat else 0) < B
      split
      · rename_i hi
        have := wd i hi
        unfold B
        omega
      · exact B_pos

theorem gTab : Tryd.prog.globalNamed "math/bits.deBruijn64tab" = some 2 := by kernel_rfl
theorem gTabType : (Tryd.prog.globals[2]?).map (·.type) = some 133 := by kernel_rfl
theorem cellsTab : Tryd.prog.cellsOf 133 = 64 := by kernel_rfl
theorem cells5 : Tryd.prog.cellsOf 5 = 1 := by kernel_rfl

def natLaid : List (String × DataW Unit) := [("math/bits.deBruijn64tab", Rows.laid_math_bits_deBruijn64tab), ("unicode/utf8.acceptRanges", Rows.laid_unicode_utf8_acceptRanges), ("unicode/utf8.first", Rows.laid_unicode_utf8_first)]
theorem natLaid_plain : (natLaid.filter fun x => x.2.handleName?.isSome) = [] := by kernel_rfl
theorem laid_plain {W : World} (h : laidMetH Tryd.prog natLaid W) : laidMet Tryd.prog natLaid W := by
  unfold laidMetH at h
  rw [natLaid_plain] at h
  exact h
theorem laid_H {W : World} (h : laidMet Tryd.prog natLaid W) : laidMetH Tryd.prog natLaid W := by
  unfold laidMetH
  rw [natLaid_plain]
  exact h

theorem table {W : World} (h : laidMetH Tryd.prog natLaid W) : Lib.TabIs Tryd.prog W "math/bits.deBruijn64tab" .u8 (Lib.deBruijn64tab.map Int.ofNat) :=
  Lib.tabIs_of_head (rest := [("unicode/utf8.acceptRanges", Rows.laid_unicode_utf8_acceptRanges), ("unicode/utf8.first", Rows.laid_unicode_utf8_first)]) gTab gTabType Tryd.underlying133 Tryd.underlying5 cells5 cellsTab (laid_plain h)

theorem tab_of {W : World} (h : laidMetH Tryd.prog natLaid W) : Tab W := by
  intro j hj
  have c := (table h).cell gTab j (by rw [List.length_map]; exact hj)
  rw [c]
  congr 2
  rw [List.getD_eq_getElem?_getD, List.getD_eq_getElem?_getD, List.getElem?_map]
  have l : j < Lib.deBruijn64tab.length := hj
  rw [List.getElem?_eq_getElem l]
  rfl

/-- The cells of a table of numbers, or of a table of such tables. -/
def cellsIn : DataW Unit → List Value
  | .agg l => l.flatMap fun
    | .lit (.int k n) => [.int k n]
    | .agg m => m.flatMap fun | .lit (.int k n) => [.int k n] | _ => []
    | _ => []
  | _ => []
def layAt (h : Array Obj) (g : Nat) (d : DataW Unit) : Array Obj := h.modify g fun
  | .cells _ t frozen => .cells (cellsIn d).toArray t frozen
  | o => o

/-- A world for the witness: the settled one, the listed tables holding what the program's text lays. -/
noncomputable def natWorld (os : Os) : World :=
  { World.holding Tryd.prog os ⟨#[], #[], []⟩ with heap := layAt (layAt (layAt (World.holding Tryd.prog os ⟨#[], #[], []⟩).heap 2 Rows.laid_math_bits_deBruijn64tab) 4 Rows.laid_unicode_utf8_acceptRanges) 3 Rows.laid_unicode_utf8_first }

end Go.Proofs.YtkkgancmodhghaaDoor
