/-
  The statement WideShifts: for all numbers a of two words and all distances n the call of WideShifts returns true, where the table of math/bits lies as the program's text lays it.
-/
import Derived.Test.YtbbmlnkdiofmeaaDoorShift3
import Derived.Deep.RegionHeld3
namespace Go.Proofs.YtbbmlnkdiofmeaaDoor
open Go.RowKit

set_option maxHeartbeats 4000000 in
theorem law_shifts (h l n : Int) (h1 : Word h) (h2 : Word l) (w : World) (hT : Tab w) :
    Calls Tryd.prog 3 #[.agg #[.int .u64 h, .int .u64 l], .int .i64 n] w fun e w' => e = .returned (.bool true) ∧ Below w.heap.size w w' := by
  have hT1 : ∀ o, Tab (w.alloc o) := fun o => hT.below ((Below.refl _ _).alloc (Nat.le_refl _) _) hT.pos
  go_enter Tryd.func3, Tryd.ntmps3
  go_wp2_with (first
    | (go_at_call 7; refine (wright_any h l n h1 h2 _ (hT1 _)).mono ?_; rintro e wa ⟨rfl, hba⟩; obtain ⟨hca, hfa⟩ := bcell hba; have sa := hba.size; simp at hca hfa sa; have q0 : w.heap.size < wa.heap.size := (by omega))
    | (go_at_call 8; refine (rright_any h l n h1 h2 _).mono ?_; rintro e wb ⟨rfl, hbb⟩; obtain ⟨hcb, hfb⟩ := bcell hbb; have sb := hbb.size; simp at hcb hfb sb; have q1 : w.heap.size < wb.heap.size := (by omega); have q2 : wa.heap.size < wb.heap.size := (by omega)))
  have n0 : wb.cell? ⟨w.heap.size, 0, none⟩ = some (.int .u64 h) := by rw [hcb _ _ (by omega), World.cell?_alloc_past _ _ _ (by omega), hca _ _ (by omega)]; simp
  have n1 : wb.cell? ⟨w.heap.size, 1, none⟩ = some (.int .u64 l) := by rw [hcb _ _ (by omega), World.cell?_alloc_past _ _ _ (by omega), hca _ _ (by omega)]; simp
  have n2 : wb.cell? ⟨wa.heap.size, 0, none⟩ = some (.int .u64 (hiW (shr (val h l) n))) := by rw [hcb _ _ (by omega)]; simp
  have n3 : wb.cell? ⟨wa.heap.size, 1, none⟩ = some (.int .u64 (loW (shr (val h l) n))) := by rw [hcb _ _ (by omega)]; simp
  have b1 : Below w.heap.size w wa := ((Below.refl _ _).alloc (Nat.le_refl _) _).trans (hba.mono (by simp))
  have b2 : Below w.heap.size w wb := (b1.alloc (by omega) _).trans (hbb.mono (by simp; omega))
  have hTb : Tab wb := hT.below b2 hT.pos
  have hT0 : ∀ o, Tab ((wb.alloc o).drew) := fun o => hTb.below ((Below.refl _ _).alloc (Nat.le_refl _) _).drew hTb.pos
  have t0 : w.heap.size < wb.heap.size + 1 := by omega
  have t1 : wa.heap.size < wb.heap.size + 1 := by omega
  clear hca hfa hcb hfb hba hbb b1 hT1
  go_region_held3 (fun w' => w'.cell? ⟨w.heap.size, 0, none⟩ = some (.int .u64 (h)) ∧ w'.cell? ⟨w.heap.size, 1, none⟩ = some (.int .u64 (l)) ∧ w'.cell? ⟨wa.heap.size, 0, none⟩ = some (.int .u64 (hiW (shr (val h l) n))) ∧ w'.cell? ⟨wa.heap.size, 1, none⟩ = some (.int .u64 (loW (shr (val h l) n))) ∧ w'.cell? ⟨wb.heap.size, 0, none⟩ = some (.int .u64 (hiW (shr (val h l) n))) ∧ w'.cell? ⟨wb.heap.size, 1, none⟩ = some (.int .u64 (loW (shr (val h l) n)))) (simp [*, go_sem, World.cell?_alloc_past])
    (first
      | (go_at_call 9; refine (wleft_any h l n h1 h2 _).mono ?_; rintro e wc ⟨rfl, hbc⟩; have hTc : Tab wc := Tab.below (by first | exact hT0 _ | assumption) hbc (Tab.pos (by first | exact hT0 _ | assumption)); obtain ⟨hcc, hfc⟩ := bcell hbc; have sc := hbc.size; simp at hcc hfc sc; have wc0 : w.heap.size < wc.heap.size := (by omega); have wc1 : wa.heap.size < wc.heap.size := (by omega); have wc2 : wb.heap.size < wc.heap.size := (by omega))
      | (go_at_call 10; refine (rleft_any h l n h1 h2 _).mono ?_; rintro e wd ⟨rfl, hbd⟩; have hTd : Tab wd := Tab.below (by first | exact hT0 _ | assumption) hbd (Tab.pos (by first | exact hT0 _ | assumption)); obtain ⟨hcd, hfd⟩ := bcell hbd; have sd := hbd.size; have wd0 : w.heap.size < wd.heap.size := (by omega); have wd1 : wa.heap.size < wd.heap.size := (by omega); have wd2 : wb.heap.size < wd.heap.size := (by omega))
      | (go_at_call 11; refine (wlead_any h l h1 h2 _).mono ?_; rintro e we ⟨rfl, hbe⟩; have hTe : Tab we := Tab.below (by first | exact hT0 _ | assumption) hbe (Tab.pos (by first | exact hT0 _ | assumption)); obtain ⟨hce, hfe⟩ := bcell hbe; have se := hbe.size; have we0 : w.heap.size < we.heap.size := (by omega); have we1 : wa.heap.size < we.heap.size := (by omega); have we2 : wb.heap.size < we.heap.size := (by omega))
      | (go_at_call 12; refine (rlead_any h l h1 h2 _).mono ?_; rintro e wf ⟨rfl, hbf⟩; have hTf : Tab wf := Tab.below (by first | exact hT0 _ | assumption) hbf (Tab.pos (by first | exact hT0 _ | assumption)); obtain ⟨hcf, hff⟩ := bcell hbf; have sf := hbf.size; have wf0 : w.heap.size < wf.heap.size := (by omega); have wf1 : wa.heap.size < wf.heap.size := (by omega); have wf2 : wb.heap.size < wf.heap.size := (by omega))
      | (go_at_call 13; refine (wtrail_any h l h1 h2 _ (by assumption)).mono ?_; rintro e wg ⟨rfl, hbg⟩; have hTg : Tab wg := Tab.below (by first | exact hT0 _ | assumption) hbg (Tab.pos (by first | exact hT0 _ | assumption)); obtain ⟨hcg, hfg⟩ := bcell hbg; have sg := hbg.size; have wg0 : w.heap.size < wg.heap.size := (by omega); have wg1 : wa.heap.size < wg.heap.size := (by omega); have wg2 : wb.heap.size < wg.heap.size := (by omega))
      | (go_at_call 14; refine (rtrail_any h l h1 h2 _).mono ?_; rintro e wi ⟨rfl, hbi⟩; have hTi : Tab wi := Tab.below (by first | exact hT0 _ | assumption) hbi (Tab.pos (by first | exact hT0 _ | assumption)); obtain ⟨hci, hfi⟩ := bcell hbi; have si := hbi.size; have wi0 : w.heap.size < wi.heap.size := (by omega); have wi1 : wa.heap.size < wi.heap.size := (by omega); have wi2 : wb.heap.size < wi.heap.size := (by omega))
      | (go_at_call 15; refine (sure_any _).mono ?_; rintro e wj ⟨rfl, hbj⟩; have hTj : Tab wj := Tab.below (by first | exact hT0 _ | assumption) hbj (Tab.pos (by first | exact hT0 _ | assumption)); obtain ⟨hcj, hfj⟩ := bcell hbj; have sj := hbj.size; have wj0 : w.heap.size < wj.heap.size := (by omega); have wj1 : wa.heap.size < wj.heap.size := (by omega); have wj2 : wb.heap.size < wj.heap.size := (by omega)))
  go_wp2
  go_ret
  have b3 : Below w.heap.size w wc := (b2.alloc (by omega) _).drew.trans (hbc.mono (by simp; omega))
  exact ⟨rfl, (((((b3.trans (hbd.mono (by omega))).trans (hbe.mono (by omega))).trans (hbf.mono (by omega))).trans (hbg.mono (by omega))).trans (hbi.mono (by omega))).trans (hbj.mono (by omega))⟩

end Go.Proofs.YtbbmlnkdiofmeaaDoor
