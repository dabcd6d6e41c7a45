/-
  What the calls of the document's Add and Sub answer, for all numbers of two words: nothing that was there turns.
-/
import Derived.Test.YtmbhmiidelcieaaDoorWide1
import Derived.RegionTactic
import Derived.ChangeAlike
import Derived.BigRegion
import Derived.Deep.RegionHeld3
namespace Go.Proofs.YtmbhmiidelcieaaDoor
open Go.RowKit

theorem ret_nb {x x' y y' : Int} {b b' : Bool} (hx : x = x') (hy : y = y') (hb : b = b') :
    Ending.returned (.tuple #[.agg #[.int .u64 x, .int .u64 y], .bool b]) = .returned (.tuple #[.agg #[.int .u64 x', .int .u64 y'], .bool b']) := by rw [hx, hy, hb]

set_option maxHeartbeats 400000 in
theorem radd_any (ah al bh bl : Int) (h1 : Word ah) (h2 : Word al) (h3 : Word bh) (h4 : Word bl) (w : World) :
    Calls Tryd.prog 37 #[.agg #[.int .u64 ah, .int .u64 al], .agg #[.int .u64 bh, .int .u64 bl]] w fun e w' =>
      e = .returned (.tuple #[.agg #[.int .u64 (sHi ah al bh bl), .int .u64 (sLo al bl)], .bool (sOv ah al bh bl)]) ∧ Below w.heap.size w w' := by
  go_enter Tryd.func37, Tryd.ntmps37
  go_wp2
  all_goals
    refine bodyPost_ret (v := _) (by simp [results, Tryd.results37, go_sem]; rfl) rfl ⟨?_, ((((Below.refl _ _).alloc (Nat.le_refl _) _).alloc (by simp) _).alloc (by simp; omega) _).alloc (by simp; omega) _⟩
    unfold Word at h1 h2 h3 h4
    simp only [IntKind.wrap_u64] at *
    apply ret_nb
    · unfold sHi a3Lo a3C; omega
    · unfold sLo a3Lo; omega
    · unfold sOv a3C; first | (rw [Bool.eq_iff_iff]; simp; omega) | (symm; simp; omega)

set_option maxHeartbeats 400000 in
theorem rsub_any (ah al bh bl : Int) (w : World) :
    Calls Tryd.prog 33 #[.agg #[.int .u64 ah, .int .u64 al], .agg #[.int .u64 bh, .int .u64 bl]] w fun e w' =>
      e = .returned (.tuple #[.agg #[.int .u64 (dHi ah al bh bl), .int .u64 (dLo al bl)], .bool (dUn ah al bh bl)]) ∧ Below w.heap.size w w' := by
  go_enter Tryd.func33, Tryd.ntmps33
  go_wp2
  · go_region_held3 (fun w' => w'.cell? ⟨w.heap.size, 0, none⟩ = some (.int .u64 ah) ∧ w'.cell? ⟨w.heap.size, 1, none⟩ = some (.int .u64 al) ∧ w'.cell? ⟨w.heap.size + 1, 0, none⟩ = some (.int .u64 bh) ∧ w'.cell? ⟨w.heap.size + 1, 1, none⟩ = some (.int .u64 bl) ∧ w'.cell? ⟨w.heap.size + 1 + 1 + 1, 0, none⟩ = some (.int .u64 (IntKind.u64.wrap (IntKind.u64.wrap (ah - bh) - 1))) ∧ w'.cell? ⟨w.heap.size + 1 + 1 + 1, 1, none⟩ = some (.int .u64 (IntKind.u64.wrap (al - bl)))) (simp [*, go_sem, World.cell?_alloc_past])
      (first | (go_at_call 32; refine (rcmp_any _ _ _ _ _).mono ?_; rintro e w1 ⟨rfl, hb⟩; obtain ⟨hc, hf⟩ := bcell hb; have hz := hb.size; simp at hc hf hz))
    obtain ⟨hc, hf⟩ := bcell hb
    simp at hc hf
    go_wp2
    refine bodyPost_ret (v := _) (by simp [results, Tryd.results33, go_sem, hc]; rfl) rfl ⟨?_, (((((((Below.refl _ _).alloc (Nat.le_refl _) _).alloc (by simp) _).alloc (by simp; omega) _).alloc (by simp; omega) _).drew.trans (hb.mono (by simp; omega))).setCell (by simp; omega) _).setCell (by simp; omega) _⟩
    apply ret_nb
    · rw [IntKind.wrap_u64]; unfold dHi s3Lo s3B; split <;> (simp only [IntKind.wrap_u64] at *; omega)
    · rw [IntKind.wrap_u64]; unfold dLo s3Lo; omega
    · exact (dUn_cmp ah al bh bl).symm
  · go_region_held3 (fun w' => w'.cell? ⟨w.heap.size, 0, none⟩ = some (.int .u64 ah) ∧ w'.cell? ⟨w.heap.size, 1, none⟩ = some (.int .u64 al) ∧ w'.cell? ⟨w.heap.size + 1, 0, none⟩ = some (.int .u64 bh) ∧ w'.cell? ⟨w.heap.size + 1, 1, none⟩ = some (.int .u64 bl) ∧ w'.cell? ⟨w.heap.size + 1 + 1 + 1, 0, none⟩ = some (.int .u64 (IntKind.u64.wrap (ah - bh))) ∧ w'.cell? ⟨w.heap.size + 1 + 1 + 1, 1, none⟩ = some (.int .u64 (IntKind.u64.wrap (al - bl)))) (simp [*, go_sem, World.cell?_alloc_past])
      (first | (go_at_call 32; refine (rcmp_any _ _ _ _ _).mono ?_; rintro e w1 ⟨rfl, hb⟩; obtain ⟨hc, hf⟩ := bcell hb; have hz := hb.size; simp at hc hf hz))
    obtain ⟨hc, hf⟩ := bcell hb
    simp at hc hf
    go_wp2
    refine bodyPost_ret (v := _) (by simp [results, Tryd.results33, go_sem, hc]; rfl) rfl ⟨?_, (((((((Below.refl _ _).alloc (Nat.le_refl _) _).alloc (by simp) _).alloc (by simp; omega) _).alloc (by simp; omega) _).drew.trans (hb.mono (by simp; omega))).setCell (by simp; omega) _).setCell (by simp; omega) _⟩
    apply ret_nb
    · rw [IntKind.wrap_u64]; unfold dHi s3Lo s3B; split <;> (simp only [IntKind.wrap_u64] at *; omega)
    · rw [IntKind.wrap_u64]; unfold dLo s3Lo; omega
    · exact (dUn_cmp ah al bh bl).symm

end Go.Proofs.YtmbhmiidelcieaaDoor
