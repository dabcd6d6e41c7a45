/-
  A slice of words that lies in a struct that is handed in, opened.
-/
import Derived.Test.YtbmcegoebhbglabDoorNatX
namespace Go.Proofs.YtbmcegoebhbglabDoor
open Go.ChangeShapes Go.WideShapes Go.ChangeAt Go.RowKit Go.Joins

set_option maxRecDepth 100000 in
theorem sl_cells {H : Type} {enc : TypeId × Value → H} {W : World} {fuel : Nat} {v : Value} {x : DataW H × List MemPlace}
    (hf : DataW.trod enc Tryd.prog W 0 (fun _ => true) true fuel 22 [v] = some x) :
    ∃ ao n c b o f, v = .slice ao n c ∧ Sl W ao n c b o f := by
  rcases open_ints Tryd.underlying22 Tryd.underlying49 cellsU64 hf with ⟨hcs, hx⟩ | ⟨a, n, c, zs, hcs, _, hl, hm, hz, hx, hcell, hwz⟩
  · simp at hcs
    subst hcs
    exact ⟨_, _, _, 0, 0, fun _ => 0, rfl, by omega, by unfold maxLen; omega, fun h => by omega, fun h => by omega, fun i hi => by omega, fun i => B_pos⟩
  · simp at hcs
    subst hcs
    simp only [if_true] at hz
    have sp : 0 < n → a.spot = none := by
      intro h
      have q := hcell 0 (by omega)
      cases s : a.spot with
      | none => rfl
      | some k =>
        simp only [Addr.add, if_pos] at q
        unfold World.cell? at q
        rw [s] at q
        split at q
        · simp at q
        · cases q
    have ad : 0 < n → a = ⟨a.block, a.off, none⟩ := fun h => by
      have := sp h
      cases a
      simp only at this
      subst this
      rfl
    have cl : ∀ i, i < n → W.cell? ⟨a.block, a.off + i, none⟩ = some (.int .u64 (zs.getD i 0)) := by
      intro i hi
      have q := hcell i (by omega)
      unfold Addr.add at q
      split at q
      · rename_i hi0
        subst hi0
        rw [ad (by omega)] at q
        exact q
      · exact q
    have wd : ∀ i, i < n → 0 ≤ zs.getD i 0 ∧ zs.getD i 0 < 2 ^ 64 := by
      intro i hi
      refine wordNat_of_wf (hwz _ ?_)
      have : zs.getD i 0 = zs[i]'(by omega) := by simp [List.getD, show i < zs.length by omega]
      rw [this]
      exact List.getElem_mem _
    refine ⟨_, _, _, a.block, a.off, fun i => if i < n then (zs.getD i 0).toNat else 0, rfl, hl, hm, fun h => by rw [← ad h], fun h => ?_, fun i hi => ?_, fun i => ?_⟩
    · exact World.block_lt_of_cell? W ⟨a.block, a.off + 0, none⟩ (cl 0 h)
    · rw [cl i hi]
      simp only [if_pos hi]
      rw [Int.toNat_of_nonneg (wd i hi).1]
    · show (if i < n then (zs.getD i 0).toNat else 0) < B
      split
      · rename_i hi
        have := wd i hi
        unfold B
        omega
      · exact B_pos

end Go.Proofs.YtbmcegoebhbglabDoor
