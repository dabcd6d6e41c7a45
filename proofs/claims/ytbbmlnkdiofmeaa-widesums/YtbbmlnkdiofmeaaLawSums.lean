/-
  The statement WideSums: for all numbers a, b of two words the call of WideSums returns true.
-/
import Derived.Test.YtbbmlnkdiofmeaaSure
import Derived.Deep.RegionHeld3
namespace Go.Proofs.Ytbbmlnkdiofmeaa
open Go.RowKit

set_option maxHeartbeats 2000000 in
theorem law_sums (ah al bh bl : Int) (h1 : Word ah) (h2 : Word al) (h3 : Word bh) (h4 : Word bl) (w : World) :
    Calls Try.prog 4 #[.agg #[.int .u64 ah, .int .u64 al], .agg #[.int .u64 bh, .int .u64 bl]] w fun e w' => e = .returned (.bool true) ∧ Below w.heap.size w w' := by
  go_enter Try.func4, Try.ntmps4
  go_wp2_with (first
    | (go_at_call 10; refine (wadd_any ah al bh bl h1 h2 h3 h4 _).mono ?_; rintro e wa ⟨rfl, hba⟩; obtain ⟨hca, hfa⟩ := bcell hba; have sa := hba.size; simp at hca hfa sa; have q0 : w.heap.size < wa.heap.size := (by omega); have q1 : w.heap.size + 1 < wa.heap.size := (by omega))
    | (go_at_call 11; refine (radd_any ah al bh bl h1 h2 h3 h4 _).mono ?_; rintro e wb ⟨rfl, hbb⟩; obtain ⟨hcb, hfb⟩ := bcell hbb; have sb := hbb.size; simp at hcb hfb sb; have q2 : wa.heap.size < wb.heap.size := (by omega); have q3 : w.heap.size < wb.heap.size := (by omega); have q4 : w.heap.size + 1 < wb.heap.size := (by omega))
    | (go_at_call 12; refine (wsub_any ah al bh bl h1 h2 h3 h4 _).mono ?_; rintro e wc ⟨rfl, hbc⟩; obtain ⟨hcc, hfc⟩ := bcell hbc; have sc := hbc.size; simp at hcc hfc sc; have q5 : wa.heap.size < wc.heap.size := (by omega); have q6 : wb.heap.size < wc.heap.size := (by omega); have q7 : w.heap.size < wc.heap.size := (by omega); have q8 : w.heap.size + 1 < wc.heap.size := (by omega))
    | (go_at_call 13; refine (rsub_any ah al bh bl _).mono ?_; rintro e wd ⟨rfl, hbd⟩; obtain ⟨hcd, hfd⟩ := bcell hbd; have sd := hbd.size; simp at hcd hfd sd; have r1 : wa.heap.size < wd.heap.size := (by omega); have r2 : wb.heap.size < wd.heap.size := (by omega); have r3 : wc.heap.size < wd.heap.size := (by omega); have r4 : w.heap.size < wd.heap.size := (by omega); have r5 : w.heap.size + 1 < wd.heap.size := (by omega)))
  have n0 : wd.cell? ⟨w.heap.size, 0, none⟩ = some (.int .u64 (ah)) := by rw [hcd _ _ (by omega), World.cell?_alloc_past _ _ _ (by omega), hcc _ _ (by omega), World.cell?_alloc_past _ _ _ (by omega), hcb _ _ (by omega), World.cell?_alloc_past _ _ _ (by omega), hca _ _ (by omega)]; simp
  have n1 : wd.cell? ⟨w.heap.size, 1, none⟩ = some (.int .u64 (al)) := by rw [hcd _ _ (by omega), World.cell?_alloc_past _ _ _ (by omega), hcc _ _ (by omega), World.cell?_alloc_past _ _ _ (by omega), hcb _ _ (by omega), World.cell?_alloc_past _ _ _ (by omega), hca _ _ (by omega)]; simp
  have n2 : wd.cell? ⟨w.heap.size + 1, 0, none⟩ = some (.int .u64 (bh)) := by rw [hcd _ _ (by omega), World.cell?_alloc_past _ _ _ (by omega), hcc _ _ (by omega), World.cell?_alloc_past _ _ _ (by omega), hcb _ _ (by omega), World.cell?_alloc_past _ _ _ (by omega), hca _ _ (by omega)]; simp
  have n3 : wd.cell? ⟨w.heap.size + 1, 1, none⟩ = some (.int .u64 (bl)) := by rw [hcd _ _ (by omega), World.cell?_alloc_past _ _ _ (by omega), hcc _ _ (by omega), World.cell?_alloc_past _ _ _ (by omega), hcb _ _ (by omega), World.cell?_alloc_past _ _ _ (by omega), hca _ _ (by omega)]; simp
  have n4 : wd.cell? ⟨wa.heap.size, 0, none⟩ = some (.int .u64 (sHi ah al bh bl)) := by rw [hcd _ _ (by omega), World.cell?_alloc_past _ _ _ (by omega), hcc _ _ (by omega), World.cell?_alloc_past _ _ _ (by omega), hcb _ _ (by omega)]; simp
  have n5 : wd.cell? ⟨wa.heap.size, 1, none⟩ = some (.int .u64 (sLo al bl)) := by rw [hcd _ _ (by omega), World.cell?_alloc_past _ _ _ (by omega), hcc _ _ (by omega), World.cell?_alloc_past _ _ _ (by omega), hcb _ _ (by omega)]; simp
  have n6 : wd.cell? ⟨wb.heap.size, 0, none⟩ = some (.int .u64 (sHi ah al bh bl)) := by rw [hcd _ _ (by omega), World.cell?_alloc_past _ _ _ (by omega), hcc _ _ (by omega)]; simp
  have n7 : wd.cell? ⟨wb.heap.size, 1, none⟩ = some (.int .u64 (sLo al bl)) := by rw [hcd _ _ (by omega), World.cell?_alloc_past _ _ _ (by omega), hcc _ _ (by omega)]; simp
  have n8 : wd.cell? ⟨wc.heap.size, 0, none⟩ = some (.int .u64 (dHi ah al bh bl)) := by rw [hcd _ _ (by omega)]; simp
  have n9 : wd.cell? ⟨wc.heap.size, 1, none⟩ = some (.int .u64 (dLo al bl)) := by rw [hcd _ _ (by omega)]; simp
  have b1 : Below w.heap.size w wb := (((((Below.refl _ _).alloc (Nat.le_refl _) _).alloc (by simp) _).trans (hba.mono (by simp; omega))).alloc (by omega) _).trans (hbb.mono (by simp; omega))
  have b2 : Below w.heap.size w wc := (b1.alloc (by omega) _).trans (hbc.mono (by simp; omega))
  have b3 : Below w.heap.size w wd := (b2.alloc (by omega) _).trans (hbd.mono (by simp; omega))
  have t0 : w.heap.size < wd.heap.size + 1 := by omega
  have t1 : w.heap.size + 1 < wd.heap.size + 1 := by omega
  have t2 : wa.heap.size < wd.heap.size + 1 := by omega
  have t3 : wb.heap.size < wd.heap.size + 1 := by omega
  have t4 : wc.heap.size < wd.heap.size + 1 := by omega
  have t5 : wd.heap.size < wd.heap.size + 1 := by omega
  clear hca hfa hcb hfb hcc hfc hcd hfd hba hbb hbc hbd b1 b2
  go_region_held3 (fun w' => w'.cell? ⟨w.heap.size, 0, none⟩ = some (.int .u64 (ah)) ∧ w'.cell? ⟨w.heap.size, 1, none⟩ = some (.int .u64 (al)) ∧ w'.cell? ⟨w.heap.size + 1, 0, none⟩ = some (.int .u64 (bh)) ∧ w'.cell? ⟨w.heap.size + 1, 1, none⟩ = some (.int .u64 (bl)) ∧ w'.cell? ⟨wa.heap.size, 0, none⟩ = some (.int .u64 (sHi ah al bh bl)) ∧ w'.cell? ⟨wa.heap.size, 1, none⟩ = some (.int .u64 (sLo al bl)) ∧ w'.cell? ⟨wb.heap.size, 0, none⟩ = some (.int .u64 (sHi ah al bh bl)) ∧ w'.cell? ⟨wb.heap.size, 1, none⟩ = some (.int .u64 (sLo al bl)) ∧ w'.cell? ⟨wc.heap.size, 0, none⟩ = some (.int .u64 (dHi ah al bh bl)) ∧ w'.cell? ⟨wc.heap.size, 1, none⟩ = some (.int .u64 (dLo al bl)) ∧ w'.cell? ⟨wd.heap.size, 0, none⟩ = some (.int .u64 (dHi ah al bh bl)) ∧ w'.cell? ⟨wd.heap.size, 1, none⟩ = some (.int .u64 (dLo al bl))) (simp [*, go_sem, World.cell?_alloc_past])
    (first
      | (go_at_call 14; refine (wcmp_any _ _ _ _ _).mono ?_; rintro e we ⟨rfl, hbe⟩; obtain ⟨hce, hfe⟩ := bcell hbe; have se := hbe.size; simp at hce hfe se; have we0 : w.heap.size < we.heap.size := (by omega); have we1 : w.heap.size + 1 < we.heap.size := (by omega); have we2 : wa.heap.size < we.heap.size := (by omega); have we3 : wb.heap.size < we.heap.size := (by omega); have we4 : wc.heap.size < we.heap.size := (by omega); have we5 : wd.heap.size < we.heap.size := (by omega))
      | (go_at_call 15; refine (rcmp_any _ _ _ _ _).mono ?_; rintro e wf ⟨rfl, hbf⟩; obtain ⟨hcf, hff⟩ := bcell hbf; have sf := hbf.size; have wf0 : w.heap.size < wf.heap.size := (by omega); have wf1 : w.heap.size + 1 < wf.heap.size := (by omega); have wf2 : wa.heap.size < wf.heap.size := (by omega); have wf3 : wb.heap.size < wf.heap.size := (by omega); have wf4 : wc.heap.size < wf.heap.size := (by omega); have wf5 : wd.heap.size < wf.heap.size := (by omega))
      | (go_at_call 9; refine (sure_any _).mono ?_; rintro e wg ⟨rfl, hbg⟩; obtain ⟨hcg, hfg⟩ := bcell hbg; have sg := hbg.size))
  go_wp2
  go_ret
  exact ⟨rfl, (((b3.alloc (by omega) _).drew.trans (hbe.mono (by simp; omega))).trans (hbf.mono (by omega))).trans (hbg.mono (by omega))⟩

end Go.Proofs.Ytbbmlnkdiofmeaa
