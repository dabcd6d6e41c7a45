/-
  The statement WideTexts: for all numbers a of two words and all texts s the call of WideTexts returns true, where errors.errorType holds the type 'error'.
-/
import Derived.Test.YtghbngjjdeameaaDoorRRead
import Derived.Test.YtghbngjjdeameaaDoorRText
import Derived.Test.YtghbngjjdeameaaDoorText
import Derived.Test.YtghbngjjdeameaaDoorSure
import Derived.Test.YtghbngjjdeameaaDoorErrNum
import Derived.Deep.RegionHeld3
namespace Go.Proofs.YtghbngjjdeameaaDoor
open Go.RowKit

/-- Both readings of a text answer the same number, and an error of the same number. -/
theorem texts_read (s : ByteArray) (hs : s.size ≤ maxLen) : ∃ (rh rl kk : Int) (E : Value),
    (∀ W, Calls Tryd.prog 5 #[.string s] W fun e w' => e = .returned (.tuple #[.agg #[.int .u64 rh, .int .u64 rl], E]) ∧ Below W.heap.size W w') ∧
    (∀ W, Calls Tryd.prog 6 #[.string s] W fun e w' => e = .returned (.tuple #[.agg #[.int .u64 rh, .int .u64 rl], .int .i64 kk]) ∧ Below W.heap.size W w') ∧
    (∀ W, ErrT W → Calls Tryd.prog 9 #[E] W fun e w' => e = .returned (.int .i64 kk) ∧ Below W.heap.size W w') := by
  cases hb : isNumB s with
  | false => exact ⟨0, 0, 3, _, fun W => wread_bad s hs hb W, fun W => rread_bad s hs hb W, fun W h => num_errno 3 W h⟩
  | true =>
    by_cases c : num s s.size < 340282366920938463463374607431768211456
    · refine ⟨hiW (num s s.size), loW (num s s.size), 0, .nilIface, fun W => (wread_num s hs hb W).mono ?_, fun W => (rread_num s hs hb W).mono ?_, fun W _ => num_nil W⟩
      · rintro e w' ⟨⟨_, h⟩ | ⟨h, _⟩, b⟩
        · exact ⟨h, b⟩
        · omega
      · rintro e w' ⟨⟨_, h⟩ | ⟨h, _⟩, b⟩
        · exact ⟨h, b⟩
        · omega
    · refine ⟨0, 0, 4, _, fun W => (wread_num s hs hb W).mono ?_, fun W => (rread_num s hs hb W).mono ?_, fun W h => num_errno 4 W h⟩
      · rintro e w' ⟨⟨h, _⟩ | ⟨_, h⟩, b⟩
        · omega
        · exact ⟨h, b⟩
      · rintro e w' ⟨⟨h, _⟩ | ⟨_, h⟩, b⟩
        · omega
        · exact ⟨h, b⟩

set_option maxHeartbeats 4000000 in
set_option maxRecDepth 100000 in
theorem law_texts (h l : Int) (s : ByteArray) (hs : s.size ≤ maxLen) (h1 : Word h) (h2 : Word l) (w : World) (hE : ErrT w) :
    Calls Tryd.prog 3 #[.agg #[.int .u64 h, .int .u64 l], .string s] w fun e w' => e = .returned (.bool true) ∧ Below w.heap.size w w' := by
  obtain ⟨rh, rl, kk, E, F1, F2, F3⟩ := texts_read s hs
  have T1 := fun W => wtext_any h l (val h l) (val_int h1 h2).symm h1 h2 W
  have T2 := fun W => rtext_any h l h1 h2 W
  generalize txt (val h l) = T at *
  go_enter Tryd.func3, Tryd.ntmps3
  go_wp2_with fail
  refine (F1 _).mono ?_
  rintro e wa ⟨rfl, hba⟩
  obtain ⟨hca, hfa⟩ := bcell hba
  have sa := hba.size
  simp at hca hfa sa
  have q0 : w.heap.size < wa.heap.size := by omega
  have ba : Below w.heap.size w wa := ((Below.refl _ _).alloc (Nat.le_refl _) _).trans (hba.mono (by simp))
  go_wp2_with fail
  refine (F2 _).mono ?_
  rintro e wb ⟨rfl, hbb⟩
  obtain ⟨hcb, hfb⟩ := bcell hbb
  have sb := hbb.size
  simp at hcb hfb sb
  have q1 : w.heap.size < wb.heap.size := by omega
  have q2 : wa.heap.size < wb.heap.size := by omega
  have bb : Below w.heap.size w wb := (ba.alloc (by omega) _).trans (hbb.mono (by simp; omega))
  have n0 : wb.cell? ⟨w.heap.size, 0, none⟩ = some (.int .u64 h) := by rw [hcb _ _ (by omega), World.cell?_alloc_past _ _ _ (by omega), hca _ _ (by omega)]; simp
  have n1 : wb.cell? ⟨w.heap.size, 1, none⟩ = some (.int .u64 l) := by rw [hcb _ _ (by omega), World.cell?_alloc_past _ _ _ (by omega), hca _ _ (by omega)]; simp
  have n2 : wb.cell? ⟨wa.heap.size, 0, none⟩ = some (.int .u64 rh) := by rw [hcb _ _ (by omega)]; simp
  have n3 : wb.cell? ⟨wa.heap.size, 1, none⟩ = some (.int .u64 rl) := by rw [hcb _ _ (by omega)]; simp
  have hEb : ErrT wb := hE.below bb hE.pos
  have hE0 : ∀ o, ErrT ((wb.alloc o).drew) := fun o => hEb.below ((Below.refl _ _).alloc (Nat.le_refl _) _).drew hEb.pos
  have t0 : w.heap.size < wb.heap.size + 1 := by omega
  have t1 : wa.heap.size < wb.heap.size + 1 := by omega
  clear hca hfa hcb hfb hba hbb F1 F2 hE hEb ba
  go_wp2_with fail
  go_region_held3 (fun w' => w'.cell? ⟨w.heap.size, 0, none⟩ = some (.int .u64 h) ∧ w'.cell? ⟨w.heap.size, 1, none⟩ = some (.int .u64 l) ∧ w'.cell? ⟨wa.heap.size, 0, none⟩ = some (.int .u64 rh) ∧ w'.cell? ⟨wa.heap.size, 1, none⟩ = some (.int .u64 rl) ∧ w'.cell? ⟨wb.heap.size, 0, none⟩ = some (.int .u64 rh) ∧ w'.cell? ⟨wb.heap.size, 1, none⟩ = some (.int .u64 rl)) (simp [*, go_sem, World.cell?_alloc_past])
    (first
      | (go_at_call 7; refine (T1 _).mono ?_; rintro e wc ⟨rfl, hbwc⟩; have hEwc : ErrT wc := ErrT.below (by first | exact hE0 _ | assumption) hbwc (ErrT.pos (by first | exact hE0 _ | assumption)); obtain ⟨hcwc, hfwc⟩ := bcell hbwc; have swc := hbwc.size; simp at hcwc hfwc swc; have wc0 : w.heap.size < wc.heap.size := (by omega); have wc1 : wa.heap.size < wc.heap.size := (by omega); have wc2 : wb.heap.size < wc.heap.size := (by omega))
      | (go_at_call 8; refine (T2 _).mono ?_; rintro e wd ⟨rfl, hbwd⟩; have hEwd : ErrT wd := ErrT.below (by first | exact hE0 _ | assumption) hbwd (ErrT.pos (by first | exact hE0 _ | assumption)); obtain ⟨hcwd, hfwd⟩ := bcell hbwd; have swd := hbwd.size; have wd0 : w.heap.size < wd.heap.size := (by omega); have wd1 : wa.heap.size < wd.heap.size := (by omega); have wd2 : wb.heap.size < wd.heap.size := (by omega))
      | (go_at_call 9; refine (F3 _ (by assumption)).mono ?_; rintro e we ⟨rfl, hbwe⟩; have hEwe : ErrT we := ErrT.below (by first | exact hE0 _ | assumption) hbwe (ErrT.pos (by first | exact hE0 _ | assumption)); obtain ⟨hcwe, hfwe⟩ := bcell hbwe; have swe := hbwe.size; have we0 : w.heap.size < we.heap.size := (by omega); have we1 : wa.heap.size < we.heap.size := (by omega); have we2 : wb.heap.size < we.heap.size := (by omega))
      | (go_at_call 10; refine (sure_any _).mono ?_; rintro e wf ⟨rfl, hbwf⟩; have hEwf : ErrT wf := ErrT.below (by first | exact hE0 _ | assumption) hbwf (ErrT.pos (by first | exact hE0 _ | assumption)); obtain ⟨hcwf, hfwf⟩ := bcell hbwf; have swf := hbwf.size; have wf0 : w.heap.size < wf.heap.size := (by omega); have wf1 : wa.heap.size < wf.heap.size := (by omega); have wf2 : wb.heap.size < wf.heap.size := (by omega)))
  go_wp2
  go_ret
  have b3 : Below w.heap.size w wc := (bb.alloc (by omega) _).drew.trans (hbwc.mono (by simp; omega))
  exact ⟨rfl, ((b3.trans (hbwd.mono (by omega))).trans (hbwe.mono (by omega))).trans (hbwf.mono (by omega))⟩

end Go.Proofs.YtghbngjjdeameaaDoor
