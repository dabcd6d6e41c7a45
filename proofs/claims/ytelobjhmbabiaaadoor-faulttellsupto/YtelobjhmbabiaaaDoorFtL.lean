/-
  A slice of links as an argument, opened; what each of its texts takes at most.
-/
import Derived.Test.YtelobjhmbabiaaaDoorFtJ
import Derived.Test.YtelobjhmbabiaaaDoorFtXe
import Derived.Deep.Slices
namespace Go.Proofs.YtelobjhmbabiaaaDoor
open Go.ChangeShapes Go.WideShapes Go.ChangeAt Go.RowKit Go.Joins

theorem laidOutF : laidOutB Tryd.prog = true := by kernel_rfl
theorem cellsLink : Tryd.prog.cellsOf 44 = 4 := by kernel_rfl
theorem cellsB1 : Tryd.prog.cellsOf 4 = 1 := by kernel_rfl
theorem cellsS1 : Tryd.prog.cellsOf 9 = 1 := by kernel_rfl
theorem cellsI1 : Tryd.prog.cellsOf 3 = 1 := by kernel_rfl
/-- A link's datum. -/
def lD {H : Type} (p : Bool) (s t : ByteArray) (l : Int) : DataW H := .agg [.lit (.bool p), .lit (.string s.data.toList), .lit (.string t.data.toList), .lit (.int .i64 l)]
theorem list4 {α : Type} {l : List α} (h : l.length = 4) : ∃ c0 c1 c2 c3, l = [c0, c1, c2, c3] := by
  match l, h with
  | [c0, c1, c2, c3], _ => exact ⟨c0, c1, c2, c3, rfl⟩

set_option maxRecDepth 100000 in
theorem link_open {H : Type} {enc : TypeId × Value → H} {W : World} {base fuel : Nat} {spare : Nat → Bool} {held : Bool} {c0 c1 c2 c3 : Value} {x : DataW H × List MemPlace}
    (hf : DataW.trod enc Tryd.prog W base spare held fuel 44 [c0, c1, c2, c3] = some x) :
    ∃ (p : Bool) (s t : ByteArray) (l : Int), ([c0, c1, c2, c3] : List Value) = [.bool p, .string s, .string t, .int .i64 l] ∧ x = (lD p s t l, []) ∧ (Lit.int .i64 l).wf = true := by
  obtain ⟨y0, y1, y2, y3, n0, rfl, _, h0, h1, h2, h3⟩ := trod_struct4 Tryd.underlying44 hf
  simp only [cellsB1, cellsS1, cellsI1, List.drop_zero, List.drop_succ_cons, List.take_succ_cons, List.take_zero] at h0 h1 h2 h3
  obtain ⟨p, e0, rfl⟩ := DataW.trod_bool Tryd.underlying4 h0
  obtain ⟨s, e1, rfl, _⟩ := DataW.trod_string Tryd.underlying9 h1
  obtain ⟨t, e2, rfl, _⟩ := DataW.trod_string Tryd.underlying9 h2
  obtain ⟨l, e3, rfl, w3⟩ := DataW.trod_int Tryd.underlying3 h3
  simp at e0 e1 e2 e3
  subst e0 e1 e2 e3
  exact ⟨p, s, t, l, rfl, rfl, w3⟩
theorem rng_of_wf {x : Int} (h : (Lit.int .i64 x).wf = true) : -9223372036854775808 ≤ x ∧ x ≤ 9223372036854775807 := by
  simp [Lit.wf, IntKind.min, IntKind.max, IntKind.signed, IntKind.bits] at h
  omega

/-- What stands in a cell. -/
def bOf : Option Value → Bool
  | some (.bool z) => z
  | _ => false
def sOf : Option Value → ByteArray
  | some (.string z) => z
  | _ => ⟨#[]⟩
def iOf : Option Value → Int
  | some (.int _ z) => z
  | _ => 0

set_option maxRecDepth 100000 in
theorem sll_open {H : Type} {enc : TypeId × Value → H} {W : World} {base : Nat} {v : Value} {d : DataW H} {ps : List MemPlace}
    (hv : Value.okWide Tryd.prog W .any base 40 v) (h : DataW.Trod enc Tryd.prog W 0 (fun _ => true) true 40 v d ps) :
    ∃ ao m c b o p cl tx ln, v = .slice ao m c ∧ ((∀ i, i < m → (cl i).size ≤ 281474976710656 ∧ (tx i).size ≤ 281474976710656) → SlL W ao m c b o p cl tx ln) ∧
      ((d = .nil ∧ m = 0) ∨ ∃ sp, d = .slice ((List.range m).map fun i => lD (p i) (cl i) (tx i) (ln i)) sp) := by
  obtain ⟨a0, n, c, rfl⟩ := okWide_slice Tryd.underlying40 hv
  obtain ⟨fuel, hf⟩ := h
  rcases Deep.open_slice Tryd.underlying40 hf with ⟨hcs, hx⟩ | ⟨a, len', cap', m, n', D, Pl, hcs, _, hl, hm, hmm, hx, hel⟩
  · simp [Value.cells] at hcs
    obtain ⟨rfl, rfl, rfl⟩ := hcs
    exact ⟨_, _, _, 0, 0, fun _ => false, fun _ => ⟨#[]⟩, fun _ => ⟨#[]⟩, fun _ => 0, rfl, fun hz => ⟨by omega, by unfold maxLen; omega, fun h => by omega, fun h => by omega, fun i hi => by omega, fun i hi => by omega, fun i hi => by omega, fun i hi => by omega, fun i hi => by omega, hz⟩, Or.inl ⟨congrArg Prod.fst hx, rfl⟩⟩
  · simp [Value.cells] at hcs
    obtain ⟨rfl, rfl, rfl⟩ := hcs
    simp only [if_true] at hmm
    have row : ∀ i, i < n → ∃ (p : Bool) (s t : ByteArray) (l : Int), W.cell? ((a.add (i * 4)).add 0) = some (.bool p) ∧ W.cell? ((a.add (i * 4)).add 1) = some (.string s) ∧ W.cell? ((a.add (i * 4)).add 2) = some (.string t) ∧ W.cell? ((a.add (i * 4)).add 3) = some (.int .i64 l) ∧ (-9223372036854775808 ≤ l ∧ l ≤ 9223372036854775807) ∧ D i = lD p s t l := by
      intro i hi
      obtain ⟨cs', hc, ht⟩ := hel i (by omega)
      rw [cellsLink] at hc
      obtain ⟨_, hlen, hcell⟩ := World.cells?_some hc
      obtain ⟨c0, c1, c2, c3, rfl⟩ := list4 hlen
      obtain ⟨p, s, t, l, e0, ex, w0⟩ := link_open ht
      rw [e0] at hcell
      exact ⟨p, s, t, l, hcell 0 (by decide), hcell 1 (by decide), hcell 2 (by decide), hcell 3 (by decide), rng_of_wf w0, congrArg Prod.fst ex⟩
    have sp : 0 < n → a.spot = none := by
      intro h
      obtain ⟨_, _, _, _, q, _⟩ := row 0 h
      cases s : a.spot with
      | none => rfl
      | some k =>
        simp only [Addr.add, if_pos, Nat.zero_mul] at q
        unfold World.cell? at q
        rw [s] at q
        split at q
        · simp at q
        · cases q
    have ad : 0 < n → a = ⟨a.block, a.off, none⟩ := fun h => by
      have := sp h
      cases a
      simp only at this
      subst this
      rfl
    have cl : ∀ i, i < n → ∃ (p : Bool) (s t : ByteArray) (l : Int), W.cell? ⟨a.block, a.off + i * 4, none⟩ = some (.bool p) ∧ W.cell? ⟨a.block, a.off + i * 4 + 1, none⟩ = some (.string s) ∧ W.cell? ⟨a.block, a.off + i * 4 + 2, none⟩ = some (.string t) ∧ W.cell? ⟨a.block, a.off + i * 4 + 3, none⟩ = some (.int .i64 l) ∧ (-9223372036854775808 ≤ l ∧ l ≤ 9223372036854775807) ∧ D i = lD p s t l := by
      intro i hi
      obtain ⟨p, s, t, l, q0, q1, q2, q3, q4, q5⟩ := row i hi
      rw [ad (by omega)] at q0 q1 q2 q3
      simp only [Lib.add_plain, Nat.add_zero] at q0 q1 q2 q3
      exact ⟨p, s, t, l, q0, q1, q2, q3, q4, q5⟩
    refine ⟨_, _, _, a.block, a.off, fun i => bOf (W.cell? ⟨a.block, a.off + i * 4, none⟩), fun i => sOf (W.cell? ⟨a.block, a.off + i * 4 + 1, none⟩), fun i => sOf (W.cell? ⟨a.block, a.off + i * 4 + 2, none⟩), fun i => iOf (W.cell? ⟨a.block, a.off + i * 4 + 3, none⟩), rfl,
      fun hz => ⟨hl, hm, fun h => by rw [← ad h], fun h => ?_, fun i hi => ?_, fun i hi => ?_, fun i hi => ?_, fun i hi => ?_, fun i hi => ?_, hz⟩, Or.inr ⟨(List.range (m - n)).map fun j => D (n + j), ?_⟩⟩
    · obtain ⟨_, _, _, _, q, _⟩ := cl 0 h
      exact World.block_lt_of_cell? W ⟨a.block, a.off + 0 * 4, none⟩ q
    · obtain ⟨p, s, t, l, q0, q1, q2, q3, q4, q5⟩ := cl i hi
      show W.cell? ⟨a.block, a.off + i * 4, none⟩ = some (Value.bool (bOf (W.cell? ⟨a.block, a.off + i * 4, none⟩)))
      rw [q0]; rfl
    · obtain ⟨p, s, t, l, q0, q1, q2, q3, q4, q5⟩ := cl i hi
      show W.cell? ⟨a.block, a.off + i * 4 + 1, none⟩ = some (Value.string (sOf (W.cell? ⟨a.block, a.off + i * 4 + 1, none⟩)))
      rw [q1]; rfl
    · obtain ⟨p, s, t, l, q0, q1, q2, q3, q4, q5⟩ := cl i hi
      show W.cell? ⟨a.block, a.off + i * 4 + 2, none⟩ = some (Value.string (sOf (W.cell? ⟨a.block, a.off + i * 4 + 2, none⟩)))
      rw [q2]; rfl
    · obtain ⟨p, s, t, l, q0, q1, q2, q3, q4, q5⟩ := cl i hi
      show W.cell? ⟨a.block, a.off + i * 4 + 3, none⟩ = some (Value.int .i64 (iOf (W.cell? ⟨a.block, a.off + i * 4 + 3, none⟩)))
      rw [q3]; rfl
    · obtain ⟨p, s, t, l, q0, q1, q2, q3, q4, q5⟩ := cl i hi
      show -9223372036854775808 ≤ iOf (W.cell? ⟨a.block, a.off + i * 4 + 3, none⟩) ∧ iOf (W.cell? ⟨a.block, a.off + i * 4 + 3, none⟩) ≤ 9223372036854775807
      rw [q3]; exact q4
    · have hd : d = .slice ((List.range n).map D) ((List.range (m - n)).map fun j => D (n + j)) := congrArg Prod.fst hx
      rw [hd]
      congr 1
      apply List.map_congr_left
      intro i hi
      obtain ⟨p, s, t, l, q0, q1, q2, q3, q4, q5⟩ := cl i (List.mem_range.mp hi)
      rw [q5]
      simp only [q0, q1, q2, q3]
      rfl

/-- What the form's reach gives of each text. -/
theorem weights_mem {H : Type} {e : TypeId} {d : DataW H} : ∀ {l : List (DataW H)}, d ∈ l → ∀ x ∈ d.weights Tryd.prog e, x ∈ DataW.weightsAll Tryd.prog e l
  | [], h => by cases h
  | a :: r, h => fun x hx => by
    unfold DataW.weightsAll
    rcases List.mem_cons.mp h with rfl | h'
    · exact List.mem_append_left _ hx
    · exact List.mem_append_right _ (weights_mem h' x hx)
theorem lD_weights {H : Type} (p : Bool) (s t : ByteArray) (l : Int) : (lD (H := H) p s t l).weights Tryd.prog 44 = [s.size, t.size] := by
  unfold lD DataW.weights
  rw [Tryd.underlying44]
  simp [DataW.weightsEach, DataW.weights]
set_option maxRecDepth 100000 in
theorem sll_reach {H : Type} {d : DataW H} {m : Nat} {p : Nat → Bool} {cl tx : Nat → ByteArray} {ln : Nat → Int} (hd : (d = .nil ∧ m = 0) ∨ ∃ sp, d = .slice ((List.range m).map fun i => lD (p i) (cl i) (tx i) (ln i)) sp)
    (hw : (d.weights Tryd.prog 40).all (· ≤ reachBytes) = true) : ∀ i, i < m → (cl i).size ≤ 281474976710656 ∧ (tx i).size ≤ 281474976710656 := by
  intro i hi
  rcases hd with ⟨_, h0⟩ | ⟨sp, rfl⟩
  · omega
  · have hm : lD (H := H) (p i) (cl i) (tx i) (ln i) ∈ (List.range m).map fun i => lD (H := H) (p i) (cl i) (tx i) (ln i) := List.mem_map.mpr ⟨i, List.mem_range.mpr hi, rfl⟩
    unfold DataW.weights at hw
    rw [Tryd.underlying40] at hw
    simp only [List.all_cons, Bool.and_eq_true, List.all_append] at hw
    have q := List.all_eq_true.mp hw.2.1
    have w1 := q (cl i).size (weights_mem hm _ (by rw [lD_weights]; simp))
    have w2 := q (tx i).size (weights_mem hm _ (by rw [lD_weights]; simp))
    simp only [decide_eq_true_eq] at w1 w2
    unfold reachBytes at w1 w2
    omega
end Go.Proofs.YtelobjhmbabiaaaDoor
