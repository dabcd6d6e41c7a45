/-
  The listed table of the rows of layer 12, a world for the witnesses, and structs of five fields as arguments.
-/
import Derived.Test.YtealnajogkeckaaDoorBsX
import Derived.Test.YtealnajogkeckaaDoorBtZ
import Derived.Test.YtealnajogkeckaaDoorRn1
import Derived.ChangeSlices
import Derived.Carry
namespace Go.Proofs.YtealnajogkeckaaDoor
open Go.ChangeShapes Go.WideShapes Go.ChangeAt Go.RowKit Go.Joins

theorem int_of_i64 {x : Int} (h : (Lit.int .i64 x).wf = true) : -9223372036854775808 ≤ x ∧ x ≤ 9223372036854775807 := by
  simp [Lit.wf, IntKind.min, IntKind.max, IntKind.signed, IntKind.bits] at h
  omega
def btTab : List (String × DataW Unit) := [("math/bits.deBruijn64tab", Rows.laid_math_bits_deBruijn64tab)]
theorem btTab_h : (btTab.filter fun x => x.2.handleName?.isSome) = [] := by kernel_rfl

theorem gTab : Tryd.prog.globalNamed "math/bits.deBruijn64tab" = some 0 := by kernel_rfl
theorem gTabType : (Tryd.prog.globals[0]?).map (·.type) = some 139 := by kernel_rfl
theorem cellsTab : Tryd.prog.cellsOf 139 = 64 := by kernel_rfl
theorem cells5 : Tryd.prog.cellsOf 5 = 1 := by kernel_rfl
theorem table {W : World} (h : laidMet Tryd.prog btTab W) : Lib.TabIs Tryd.prog W "math/bits.deBruijn64tab" .u8 (Lib.deBruijn64tab.map Int.ofNat) :=
  Lib.tabIs_of_head (rest := []) gTab gTabType Tryd.underlying139 Tryd.underlying5 cells5 cellsTab h
theorem tab_of {W : World} (h : laidMet Tryd.prog btTab W) : Tab W := by
  intro j hj
  have c := (table h).cell gTab j (by rw [List.length_map]; exact hj)
  rw [c]
  congr 2
  rw [List.getD_eq_getElem?_getD, List.getD_eq_getElem?_getD, List.getElem?_map]
  have l : j < Lib.deBruijn64tab.length := hj
  rw [List.getElem?_eq_getElem l]
  rfl
theorem tabT_of {W : World} (h : laidMetH Tryd.prog btTab W) : Tab W := by
  unfold laidMetH at h
  rw [btTab_h] at h
  exact tab_of h

/-- The cells of a table of numbers. -/
def cellsIn : DataW Unit → List Value
  | .agg l => l.flatMap fun
    | .lit (.int k n) => [.int k n]
    | _ => []
  | _ => []
def layAt (h : Array Obj) (g : Nat) (d : DataW Unit) : Array Obj := h.modify g fun
  | .cells _ t frozen => .cells (cellsIn d).toArray t frozen
  | o => o
/-- Worlds for the witnesses: the settled one, the listed variables laid. -/
noncomputable def tabWorld (os : Os) : World :=
  { World.holding Tryd.prog os ⟨#[], #[], []⟩ with heap := layAt (World.holding Tryd.prog os ⟨#[], #[], []⟩).heap 0 Rows.laid_math_bits_deBruijn64tab }
theorem laidOut' : laidOutB Tryd.prog = true := by kernel_rfl
theorem cellsU64 : Tryd.prog.cellsOf 27 = 1 := by kernel_rfl
theorem wordNat_of_wf {x : Int} (h : (Lit.int .u64 x).wf = true) : 0 ≤ x ∧ x < 2 ^ 64 := by
  simp [Lit.wf, IntKind.min, IntKind.max, IntKind.signed, IntKind.bits] at h
  exact ⟨by omega, by omega⟩


set_option maxRecDepth 100000 in
theorem sl_open {H : Type} {enc : TypeId × Value → H} {W : World} {base : Nat} {v : Value} {d : DataW H} {ps : List MemPlace}
    (hv : Value.okWide Tryd.prog W .any base 22 v) (h : DataW.Trod enc Tryd.prog W 0 (fun _ => true) true 22 v d ps) :
    ∃ ao n c b o f, v = .slice ao n c ∧ Sl W ao n c b o f := by
  obtain ⟨a0, n, c, rfl⟩ := okWide_slice Tryd.underlying22 hv
  obtain ⟨fuel, hf⟩ := h
  rcases open_ints Tryd.underlying22 Tryd.underlying27 cellsU64 hf with ⟨hcs, hx⟩ | ⟨a, len', cap', zs, hcs, _, hl, hm, hz, hx, hcell, hwz⟩
  · simp [Value.cells] at hcs
    obtain ⟨rfl, rfl, rfl⟩ := hcs
    exact ⟨_, _, _, 0, 0, fun _ => 0, rfl, by omega, by unfold maxLen; omega, fun h => by omega, fun h => by omega, fun i hi => by omega, fun i => B_pos⟩
  · simp [Value.cells] at hcs
    obtain ⟨rfl, rfl, rfl⟩ := hcs
    simp only [if_true] at hz
    have sp : 0 < n → a.spot = none := by
      intro h
      have q := hcell 0 (by omega)
      cases s : a.spot with
      | none => rfl
      | some k =>
        simp only [Addr.add, if_pos] at q
        unfold World.cell? at q
        rw [s] at q
        split at q
        · simp at q
        · cases q
    have ad : 0 < n → a = ⟨a.block, a.off, none⟩ := fun h => by
      have := sp h
      cases a
      simp only at this
      subst this
      rfl
    have cl : ∀ i, i < n → W.cell? ⟨a.block, a.off + i, none⟩ = some (.int .u64 (zs.getD i 0)) := by
      intro i hi
      have q := hcell i (by omega)
      unfold Addr.add at q
      split at q
      · rename_i hi0
        subst hi0
        rw [ad (by omega)] at q
        exact q
      · exact q
    have wd : ∀ i, i < n → 0 ≤ zs.getD i 0 ∧ zs.getD i 0 < 2 ^ 64 := by
      intro i hi
      refine wordNat_of_wf (hwz _ ?_)
      have : zs.getD i 0 = zs[i]'(by omega) := by simp [List.getD, show i < zs.length by omega]
      rw [this]
      exact List.getElem_mem _
    refine ⟨_, _, _, a.block, a.off, fun i => if i < n then (zs.getD i 0).toNat else 0, rfl, hl, hm, fun h => by rw [← ad h], fun h => ?_, fun i hi => ?_, fun i => ?_⟩
    · exact World.block_lt_of_cell? W ⟨a.block, a.off + 0, none⟩ (cl 0 h)
    · rw [cl i hi]
      simp only [if_pos hi]
      rw [Int.toNat_of_nonneg (wd i hi).1]
    · show (if i < n then (zs.getD i 0).toNat else 0) < B
      split
      · rename_i hi
        have := wd i hi
        unfold B
        omega
      · exact B_pos
set_option maxRecDepth 100000 in
theorem sl_cells {H : Type} {enc : TypeId × Value → H} {W : World} {fuel : Nat} {v : Value} {x : DataW H × List MemPlace}
    (hf : DataW.trod enc Tryd.prog W 0 (fun _ => true) true fuel 22 [v] = some x) :
    ∃ ao n c b o f, v = .slice ao n c ∧ Sl W ao n c b o f := by
  rcases open_ints Tryd.underlying22 Tryd.underlying27 cellsU64 hf with ⟨hcs, hx⟩ | ⟨a, n, c, zs, hcs, _, hl, hm, hz, hx, hcell, hwz⟩
  · simp at hcs
    subst hcs
    exact ⟨_, _, _, 0, 0, fun _ => 0, rfl, by omega, by unfold maxLen; omega, fun h => by omega, fun h => by omega, fun i hi => by omega, fun i => B_pos⟩
  · simp at hcs
    subst hcs
    simp only [if_true] at hz
    have sp : 0 < n → a.spot = none := by
      intro h
      have q := hcell 0 (by omega)
      cases s : a.spot with
      | none => rfl
      | some k =>
        simp only [Addr.add, if_pos] at q
        unfold World.cell? at q
        rw [s] at q
        split at q
        · simp at q
        · cases q
    have ad : 0 < n → a = ⟨a.block, a.off, none⟩ := fun h => by
      have := sp h
      cases a
      simp only at this
      subst this
      rfl
    have cl : ∀ i, i < n → W.cell? ⟨a.block, a.off + i, none⟩ = some (.int .u64 (zs.getD i 0)) := by
      intro i hi
      have q := hcell i (by omega)
      unfold Addr.add at q
      split at q
      · rename_i hi0
        subst hi0
        rw [ad (by omega)] at q
        exact q
      · exact q
    have wd : ∀ i, i < n → 0 ≤ zs.getD i 0 ∧ zs.getD i 0 < 2 ^ 64 := by
      intro i hi
      refine wordNat_of_wf (hwz _ ?_)
      have : zs.getD i 0 = zs[i]'(by omega) := by simp [List.getD, show i < zs.length by omega]
      rw [this]
      exact List.getElem_mem _
    refine ⟨_, _, _, a.block, a.off, fun i => if i < n then (zs.getD i 0).toNat else 0, rfl, hl, hm, fun h => by rw [← ad h], fun h => ?_, fun i hi => ?_, fun i => ?_⟩
    · exact World.block_lt_of_cell? W ⟨a.block, a.off + 0, none⟩ (cl 0 h)
    · rw [cl i hi]
      simp only [if_pos hi]
      rw [Int.toNat_of_nonneg (wd i hi).1]
    · show (if i < n then (zs.getD i 0).toNat else 0) < B
      split
      · rename_i hi
        have := wd i hi
        unfold B
        omega
      · exact B_pos

theorem bytesU64 : Tryd.prog.bytesOf 27 = 8 := by kernel_rfl

set_option maxRecDepth 100000 in
theorem sl_reach {H : Type} {enc : TypeId × Value → H} {W : World} {d : DataW H} {ps : List MemPlace} {ao : Option Addr} {n c : Nat}
    (h : DataW.Trod enc Tryd.prog W 0 (fun _ => true) true 22 (.slice ao n c) d ps) (hw : (d.weights Tryd.prog 22).all (· ≤ reachBytes) = true) (hc : n ≤ c) : n * 8 ≤ 140737488355328 := by
  obtain ⟨fuel, hf⟩ := h
  rcases open_ints Tryd.underlying22 Tryd.underlying27 cellsU64 hf with ⟨hcs, hx⟩ | ⟨a, len', cap', zs, hcs, _, hl, hm, hz, hx, _, _⟩
  · simp [Value.cells] at hcs
    omega
  · simp [Value.cells] at hcs
    obtain ⟨_, rfl, rfl⟩ := hcs
    simp only [if_true] at hz
    have hd : d = .slice (lits .u64 (zs.take n)) (lits .u64 (zs.drop n)) := congrArg Prod.fst hx
    rw [hd] at hw
    unfold DataW.weights at hw
    rw [Tryd.underlying22] at hw
    simp only [List.all_cons, Bool.and_eq_true, decide_eq_true_eq, bytesU64] at hw
    have q := hw.1
    have l1 : (lits (H := H) .u64 (zs.take n)).length + (lits (H := H) .u64 (zs.drop n)).length = c := by
      simp [lits, hz]
      omega
    rw [l1] at q
    unfold reachBytes at q
    omega


theorem five_of {α : Type} {l : List α} (h : l.length = 5) : ∃ a b c d e, l = [a, b, c, d, e] := by
  match l, h with
  | [a, b, c, d, e], _ => exact ⟨a, b, c, d, e, rfl⟩
theorem cellsLW : Tryd.prog.cellsOf 39 = 5 := by kernel_rfl
theorem cellsNB : Tryd.prog.cellsOf 24 = 5 := by kernel_rfl
theorem cellsU : Tryd.prog.cellsOf 27 = 1 := by kernel_rfl
theorem cellsW : Tryd.prog.cellsOf 22 = 1 := by kernel_rfl
theorem cells3 : Tryd.prog.cellsOf 3 = 1 := by kernel_rfl
theorem cells4 : Tryd.prog.cellsOf 4 = 1 := by kernel_rfl
set_option maxRecDepth 100000 in
theorem lw_open {H : Type} {enc : TypeId × Value → H} {W : World} {base b0 : Nat} {spare : Nat → Bool} {held : Bool} {r : Reach} {v : Value} {d : DataW H} {ps : List MemPlace}
    (hv : Value.okWide Tryd.prog W r b0 39 v) (h : DataW.Trod enc Tryd.prog W base spare held 39 v d ps) :
    ∃ (s : Int) (c more : Bool) (m : Nat) (e : Int), v = .agg #[.int .i64 s, .bool c, .bool more, .int .u64 (m : Int), .int .i64 e] ∧ m < 18446744073709551616 := by
  obtain ⟨cs, rfl, hsz⟩ := okWide_struct Tryd.underlying39 hv
  obtain ⟨fuel, hf⟩ := h
  obtain ⟨xs, n, _, hx, _, hl, hr⟩ := DataW.trod_struct Tryd.underlying39 hf
  obtain ⟨y0, y1, y2, y3, y4, rfl⟩ := five_of hl
  obtain ⟨c0, c1, c2, c3, c4, hc⟩ := five_of (l := cs.toList) (by rw [Array.length_toList]; exact hsz.trans cellsLW)
  obtain rfl : cs = #[c0, c1, c2, c3, c4] := Array.toList_inj.1 hc
  have r0 := hr 0 _ rfl
  have r1 := hr 1 _ rfl
  have r2 := hr 2 _ rfl
  have r3 := hr 3 _ rfl
  have r4 := hr 4 _ rfl
  simp [Value.cells, cellsU, cells3, cells4] at r0 r1 r2 r3 r4
  obtain ⟨s, e0, _, _⟩ := DataW.trod_int Tryd.underlying3 r0
  obtain ⟨c, e1, _⟩ := DataW.trod_bool Tryd.underlying4 r1
  obtain ⟨more, e2, _⟩ := DataW.trod_bool Tryd.underlying4 r2
  obtain ⟨m, e3, _, w3⟩ := DataW.trod_int Tryd.underlying27 r3
  obtain ⟨e, e4, _, _⟩ := DataW.trod_int Tryd.underlying3 r4
  simp at e0 e1 e2 e3 e4
  subst e0 e1 e2 e3 e4
  obtain ⟨k, rfl, hk⟩ := nat_of_u64 w3
  exact ⟨s, c, more, k, e, rfl, hk⟩
set_option maxRecDepth 100000 in
theorem nb_open {H : Type} {enc : TypeId × Value → H} {W : World} {b0 : Nat} {r : Reach} {v : Value} {d : DataW H} {ps : List MemPlace}
    (hv : Value.okWide Tryd.prog W r b0 24 v) (h : DataW.Trod enc Tryd.prog W 0 (fun _ => true) true 24 v d ps) :
    ∃ (s : Int) (c : Bool) (ao : Option Addr) (n cn bn on : Nat) (F : Nat → Nat) (bo : Option Addr) (m cm bm om : Nat) (G : Nat → Nat) (e : Int), v = .agg #[.int .i64 s, .bool c, .slice ao n cn, .slice bo m cm, .int .i64 e] ∧ Sl W ao n cn bn on F ∧ Sl W bo m cm bm om G ∧ -9223372036854775808 ≤ e ∧ e ≤ 9223372036854775807 ∧ ((d.weights Tryd.prog 24).all (· ≤ reachBytes) = true → n * 8 ≤ 140737488355328 ∧ m * 8 ≤ 140737488355328) := by
  obtain ⟨cs, rfl, hsz⟩ := okWide_struct Tryd.underlying24 hv
  obtain ⟨fuel, hf⟩ := h
  obtain ⟨xs, n, _, hx, _, hl, hr⟩ := DataW.trod_struct Tryd.underlying24 hf
  obtain ⟨y0, y1, y2, y3, y4, rfl⟩ := five_of hl
  obtain ⟨c0, c1, c2, c3, c4, hc⟩ := five_of (l := cs.toList) (by rw [Array.length_toList]; exact hsz.trans cellsNB)
  obtain rfl : cs = #[c0, c1, c2, c3, c4] := Array.toList_inj.1 hc
  have r0 := hr 0 _ rfl
  have r1 := hr 1 _ rfl
  have r2 := hr 2 _ rfl
  have r3 := hr 3 _ rfl
  have r4 := hr 4 _ rfl
  simp [Value.cells, cellsW, cells3, cells4] at r0 r1 r2 r3 r4
  obtain ⟨s, e0, _, _⟩ := DataW.trod_int Tryd.underlying3 r0
  obtain ⟨c, e1, _⟩ := DataW.trod_bool Tryd.underlying4 r1
  obtain ⟨ao, nn, cn, bn, on, F, rfl, S⟩ := sl_cells r2
  obtain ⟨bo, m, cm, bm, om, G, rfl, S'⟩ := sl_cells r3
  obtain ⟨e, e4, _, w4⟩ := DataW.trod_int Tryd.underlying3 r4
  simp at e0 e1 e4
  subst e0 e1 e4
  have b4 := int_of_i64 w4
  refine ⟨s, c, ao, nn, cn, bn, on, F, bo, m, cm, bm, om, G, e, rfl, S, S', b4.1, b4.2, fun hw => ?_⟩
  have hd : d = .agg [y0.1, y1.1, y2.1, y3.1, y4.1] := congrArg Prod.fst hx
  rw [hd] at hw
  unfold DataW.weights at hw
  rw [Tryd.underlying24] at hw
  simp only [List.map_cons, List.map_nil, DataW.weightsEach, List.all_append, Bool.and_eq_true] at hw
  exact ⟨sl_reach ⟨_, r2⟩ hw.2.2.1 S.le, sl_reach ⟨_, r3⟩ hw.2.2.2.1 S'.le⟩
end Go.Proofs.YtealnajogkeckaaDoor
