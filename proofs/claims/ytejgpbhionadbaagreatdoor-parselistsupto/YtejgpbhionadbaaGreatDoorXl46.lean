/-
  Holds: PsL.
-/
import Derived.Test.YtejgpbhionadbaaGreatDoorShelf
import Derived.Lib.ItoaNum
import Derived.WalkSpells
import Derived.WalkLawsBesides
import Derived.Lib.Mul64
import Derived.Lib.TrailingZeros
import Derived.Deep.OwnRows
import Derived.Laws.CopyOwn
import Derived.BigQuiet
import Derived.Deep.RegionHeld3
import Derived.Deep.LoopGhost
import Derived.Deep.AppendLies
import Derived.Deep.DeepCutAuto
import Derived.Stop.Asserts
import Derived.RowKitTokens
import Derived.Lib.BufferWrite
import Derived.Lib.ConvBytes
import Derived.Test.YtejgpbhionadbaaGreatDoorRows
import Derived.Laws.EntriesVeiled
import Derived.ProofKit
import Derived.LaidHandle
import Derived.LaidSub
import Derived.Stop.Joined
import Derived.Lib.SmallJoins
import Derived.Deep.DeepHandedRow
import Derived.Test.YtejgpbhionadbaaGreatDoorXl45
set_option maxRecDepth 100000
set_option maxHeartbeats 4000000
namespace Go.Proofs.YtejgpbhionadbaaGreatDoor
open Go.ChangeShapes Go.WideShapes Go.ChangeAt Go.RowKit Go.Joins
theorem aGL:laidOutB Tryz.prog=true:=by kernel_rfl
theorem aGc:Tryz.prog.cellsOf 9=1:=by kernel_rfl
theorem aHB      {H : Type} {enc : TypeId × Value → H} {W : World} {base : Nat} {v : Value} {d : DataW H} {ps : List MemPlace}
    (hv : Value.okWide Tryz.prog W .any base 22 v) (h : DataW.Trod enc Tryz.prog W 0 (fun _ => true) true 22 v d ps) :
    ∃ ao n c b o f, v = .slice ao n c ∧ ((∀ i, i < n → (f i).length ≤ 1048576) → n ≤ 1048576 → SlS W ao n c b o f) ∧
      ((d = .nil ∧ n = 0) ∨ ∃ sp, d = .slice ((List.range n).map fun i => .lit (.string (f i))) sp) := by
  obtain ⟨a0, n, c, rfl⟩ := okWide_slice Tryz.underlying22 hv
  obtain ⟨fuel, hf⟩ := h
  rcases Deep.open_strs Tryz.underlying22 Tryz.underlying9 aGc      hf with ⟨hcs, hx⟩ | ⟨a, len', cap', m, Sx, hcs, _, hl, hm, hmm, hx, hcell⟩
  · simp [Value.cells] at hcs
    obtain ⟨rfl, rfl, rfl⟩ := hcs
    exact ⟨_, _, _, 0, 0, fun _ => [], rfl, fun h1 h2 => ⟨by omega, by unfold maxLen; omega, fun h => by omega, fun h => by omega, fun i hi => by omega, h1, h2⟩, Or.inl ⟨congrArg Prod.fst hx, rfl⟩⟩
  · simp [Value.cells] at hcs
    obtain ⟨rfl, rfl, rfl⟩ := hcs
    simp only [if_true] at hmm
    have row : ∀ i, i < n → W.cell? (a.add i) = some (.string (Sx i)) := fun i hi => (hcell i (by omega)).1
    have sp : 0 < n → a.spot = none := by
      intro h
      have q := row 0 h
      cases s : a.spot with
      | none => rfl
      | some k =>
        simp only [Addr.add, if_pos] at q
        unfold World.cell? at q
        rw [s] at q
        split at q
        · simp at q
        · cases q
    have ad : 0 < n → a = ⟨a.block, a.off, none⟩ := fun h => by
      have := sp h
      cases a
      simp only at this
      subst this
      rfl
    have cl : ∀ i, i < n → W.cell? ⟨a.block, a.off + i, none⟩ = some (.string (Sx i)) := by
      intro i hi
      have q := row i hi
      unfold Addr.add at q
      split at q
      · rename_i hi0
        subst hi0
        rw [ad (by omega)] at q
        exact q
      · exact q
    refine ⟨_, _, _, a.block, a.off, fun i => (Sx i).data.toList, rfl, fun h1 h2 => ⟨hl, hm, fun h => by rw [← ad h], fun h => ?_, fun i hi => ?_, h1, h2⟩, Or.inr ⟨_, congrArg Prod.fst hx⟩⟩
    · exact World.block_lt_of_cell? W ⟨a.block, a.off + 0, none⟩ (cl 0 h)
    · exact cl i hi
theorem xF {H:Type}(l r:List (DataW H)):Rows.uptoBulkAll (l ++ r)=Rows.uptoBulkAll l+Rows.uptoBulkAll r:=by
 induction l with
 | nil=>simp [Rows.uptoBulkAll]
 | cons x l ih=>simp only [List.cons_append,Rows.uptoBulkAll,ih];omega
theorem tR        {H : Type} (f : Nat → List UInt8) : ∀ n : Nat, n ≤ Rows.uptoBulkAll ((List.range n).map fun i => DataW.lit (H := H) (.string (f i))) ∧ ∀ i, i < n → (f i).length ≤ Rows.uptoBulkAll ((List.range n).map fun i => DataW.lit (H := H) (.string (f i)))
  | 0 => ⟨Nat.zero_le _, fun i hi => absurd hi (by omega)⟩
  | n + 1 => by
    obtain ⟨h1, h2⟩ := tR        (H := H) f n
    rw [List.range_succ, List.map_append, xF          ]
    have e : Rows.uptoBulkAll ([n].map fun i => DataW.lit (H := H) (.string (f i))) = Rows.uptoBulk (DataW.lit (H := H) (.string (f n))) + 0 := rfl
    rw [e]
    simp only [Rows.uptoBulk]
    refine ⟨by omega, fun i hi => ?_⟩
    by_cases q : i = n
    · subst q; omega
    · have := h2 i (by omega); omega
theorem zV {H:Type}{z:Int}{d:DataW H}{n:Nat}{f:Nat -> List UInt8}(hd:(d=.nil/\n=0) \/ ∃ sp,d=.slice ((List.range n).map fun i=>.lit (.string (f i))) sp)
 (hk:Rows.uptoSmall H [d,.lit (.int .i64 z)]=true):(∀ i,i<n -> (f i).length<=1048576)/\n<=1048576:=by
 have h:Rows.uptoBulkAll [d,DataW.lit (H:=H) (.int .i64 z)]<=1048576:=of_decide_eq_true hk
 rcases hd with ⟨_,rfl⟩ | ⟨sp,rfl⟩
 . exact ⟨fun i hi=>absurd hi (by omega),by omega⟩
 . obtain ⟨h1,h2⟩:=tR (H:=H) f n
   simp only [Rows.uptoBulkAll,Rows.uptoBulk] at h
   exact ⟨fun i hi=>by have:=h2 i hi;omega,by omega⟩
end Go.Proofs.YtejgpbhionadbaaGreatDoor
