/-
  The statement WideRing, where the divisor is 0 and the distance is not from 0 to 127: the call returns true.
-/
import Derived.Test.YtmbhmiidelcieaaDoorRingA
namespace Go.Proofs.YtmbhmiidelcieaaDoor
open Go.RowKit

set_option maxRecDepth 100000 in
set_option maxHeartbeats 4000000 in
theorem law_ring_zo (ah al bh bl n : Int) (h1 : Word ah) (h2 : Word al) (h3 : Word bh) (h4 : Word bl) (hn : n < 0 ∨ 128 ≤ n) (w : World) :
    Calls Tryd.prog 6 #[.agg #[.int .u64 ah, .int .u64 al], .agg #[.int .u64 bh, .int .u64 bl], .agg #[.int .u64 0, .int .i64 n]] w fun e w' => e = .returned (.bool true) ∧ Below w.heap.size w w' := by
  have hV : ah * 18446744073709551616 + al = (val ah al : Int) := (val_int h1 h2).symm
  have hvl := val_lt h1 h2
  have x1 := add_comm_hi ah al bh bl
  have x2 := add_comm_lo al bl
  have x3 := back_hi (bh := bh) h1 h2 h4
  have x4 := back_lo (bl := bl) h2
  have wS := sHi_word ah al bh bl
  have wL := sLo_word al bl
  have y1 := hiW_val h1 h2
  have y2 := loW_val h1 h2
  have HVV : Hid (ah * 18446744073709551616 + al = (val ah al : Int)) := hV
  have HVL : Hid (val ah al < 340282366920938463463374607431768211456) := hvl
  clear hV hvl
  have hn' : decide (0 ≤ n) = false ∨ (0 ≤ n ∧ ¬ n < 128) := by
    rcases hn with q | q
    · exact Or.inl (by simp; omega)
    · exact Or.inr ⟨by omega, by omega⟩
  clear hn
  rcases hn' with hn | ⟨hn, hm⟩
  all_goals
    go_enter Tryd.func6, Tryd.ntmps6
    go_wp2
    go_region
    go_wp2_with fail
    refine (wadd_any ah al bh bl h1 h2 h3 h4 _).mono ?_
    rintro e wa ⟨rfl, hba⟩
    obtain ⟨hca, hfa⟩ := bcell hba
    have sa := hba.size
    try simp at hca hfa sa
    have za : w.heap.size < wa.heap.size := by omega
    have zza : w.heap.size + 1 < wa.heap.size := by omega
    have BWa : Below w.heap.size w wa := (((((Below.refl _ _).alloc (Nat.le_refl _) _).alloc (by simp) _).alloc (by simp; omega) _).drew).trans (hba.mono (by simp; omega))
    have na0a : wa.cell? ⟨w.heap.size, 0, none⟩ = some (.int .u64 ah) := by rw [hca _ _ (by omega), World.cell?_alloc_past _ _ _ (by simp; omega)]; simp
    have na1a : wa.cell? ⟨w.heap.size, 1, none⟩ = some (.int .u64 al) := by rw [hca _ _ (by omega), World.cell?_alloc_past _ _ _ (by simp; omega)]; simp
    go_wp2_with fail
    refine (wadd_any bh bl ah al h3 h4 h1 h2 _).mono ?_
    rintro e wb ⟨rfl, hbb⟩
    obtain ⟨hcb, hfb⟩ := bcell hbb
    have sb := hbb.size
    try simp at hcb hfb sb
    have zb : w.heap.size < wb.heap.size := by omega
    have zzb : w.heap.size + 1 < wb.heap.size := by omega
    have zba : wa.heap.size < wb.heap.size := by omega
    have BWb : Below w.heap.size w wb := by first | exact (BWa.alloc (by omega) _).trans (hbb.mono (by simp; omega)) | exact BWa.trans (hbb.mono (by omega))
    have na0b : wb.cell? ⟨w.heap.size, 0, none⟩ = some (.int .u64 ah) := by first | (rw [hcb _ _ (by omega), World.cell?_alloc_past _ _ _ (by omega)]; exact na0a) | (rw [hcb _ _ (by omega)]; exact na0a)
    have na1b : wb.cell? ⟨w.heap.size, 1, none⟩ = some (.int .u64 al) := by first | (rw [hcb _ _ (by omega), World.cell?_alloc_past _ _ _ (by omega)]; exact na1a) | (rw [hcb _ _ (by omega)]; exact na1a)
    go_wp2_with fail
    refine (wsub_any _ _ bh bl wS wL h3 h4 _).mono ?_
    rintro e wc ⟨rfl, hbc⟩
    obtain ⟨hcc, hfc⟩ := bcell hbc
    have sc := hbc.size
    try simp at hcc hfc sc
    have zc : w.heap.size < wc.heap.size := by omega
    have zzc : w.heap.size + 1 < wc.heap.size := by omega
    have zca : wa.heap.size < wc.heap.size := by omega
    have zcb : wb.heap.size < wc.heap.size := by omega
    have BWc : Below w.heap.size w wc := by first | exact (BWb.alloc (by omega) _).trans (hbc.mono (by simp; omega)) | exact BWb.trans (hbc.mono (by omega))
    have na0c : wc.cell? ⟨w.heap.size, 0, none⟩ = some (.int .u64 ah) := by first | (rw [hcc _ _ (by omega), World.cell?_alloc_past _ _ _ (by omega)]; exact na0b) | (rw [hcc _ _ (by omega)]; exact na0b)
    have na1c : wc.cell? ⟨w.heap.size, 1, none⟩ = some (.int .u64 al) := by first | (rw [hcc _ _ (by omega), World.cell?_alloc_past _ _ _ (by omega)]; exact na1b) | (rw [hcc _ _ (by omega)]; exact na1b)
    go_wp2_with fail
    refine (wdivw_zero ah al _).mono ?_
    rintro e wd ⟨rfl, hbd⟩
    obtain ⟨hcd, hfd⟩ := bcell hbd
    have sd := hbd.size
    try simp at hcd hfd sd
    have zd : w.heap.size < wd.heap.size := by omega
    have zzd : w.heap.size + 1 < wd.heap.size := by omega
    have BWd : Below w.heap.size w wd := by first | exact (BWc.alloc (by omega) _).trans (hbd.mono (by simp; omega)) | exact BWc.trans (hbd.mono (by omega))
    have na0d : wd.cell? ⟨w.heap.size, 0, none⟩ = some (.int .u64 ah) := by first | (rw [hcd _ _ (by omega), World.cell?_alloc_past _ _ _ (by omega)]; exact na0c) | (rw [hcd _ _ (by omega)]; exact na0c)
    have na1d : wd.cell? ⟨w.heap.size, 1, none⟩ = some (.int .u64 al) := by first | (rw [hcd _ _ (by omega), World.cell?_alloc_past _ _ _ (by omega)]; exact na1c) | (rw [hcd _ _ (by omega)]; exact na1c)
    go_wp2_with fail
    refine (wtext_any ah al (val ah al) HVV.out h1 h2 _).mono ?_
    rintro e wm ⟨rfl, hbm⟩
    obtain ⟨hcm, hfm⟩ := bcell hbm
    have sm := hbm.size
    try simp at hcm hfm sm
    have zm : w.heap.size < wm.heap.size := by omega
    have zzm : w.heap.size + 1 < wm.heap.size := by omega
    have BWm : Below w.heap.size w wm := by first | exact (BWd.alloc (by omega) _).trans (hbm.mono (by simp; omega)) | exact BWd.trans (hbm.mono (by omega))
    have na0m : wm.cell? ⟨w.heap.size, 0, none⟩ = some (.int .u64 ah) := by first | (rw [hcm _ _ (by omega), World.cell?_alloc_past _ _ _ (by omega)]; exact na0d) | (rw [hcm _ _ (by omega)]; exact na0d)
    have na1m : wm.cell? ⟨w.heap.size, 1, none⟩ = some (.int .u64 al) := by first | (rw [hcm _ _ (by omega), World.cell?_alloc_past _ _ _ (by omega)]; exact na1d) | (rw [hcm _ _ (by omega)]; exact na1d)
    go_wp2_with fail
    refine (wread_txt (val ah al) HVL.out _).mono ?_
    rintro e wn ⟨rfl, hbn⟩
    obtain ⟨hcn, hfn⟩ := bcell hbn
    have sn := hbn.size
    try simp at hcn hfn sn
    have zn : w.heap.size < wn.heap.size := by omega
    have zzn : w.heap.size + 1 < wn.heap.size := by omega
    have BWn : Below w.heap.size w wn := by first | exact (BWm.alloc (by omega) _).trans (hbn.mono (by simp; omega)) | exact BWm.trans (hbn.mono (by omega))
    have na0n : wn.cell? ⟨w.heap.size, 0, none⟩ = some (.int .u64 ah) := by first | (rw [hcn _ _ (by omega), World.cell?_alloc_past _ _ _ (by omega)]; exact na0m) | (rw [hcn _ _ (by omega)]; exact na0m)
    have na1n : wn.cell? ⟨w.heap.size, 1, none⟩ = some (.int .u64 al) := by first | (rw [hcn _ _ (by omega), World.cell?_alloc_past _ _ _ (by omega)]; exact na1m) | (rw [hcn _ _ (by omega)]; exact na1m)
    go_wp2_with fail
    refine (sure_any _).mono ?_
    rintro e wo ⟨rfl, hbo⟩
    have bo : Below w.heap.size w wo := by first | exact (BWn.alloc (by omega) _).trans (hbo.mono (by simp; omega)) | exact BWn.trans (hbo.mono (by omega))
    go_wp2
    go_ret
    exact ⟨rfl, bo⟩

end Go.Proofs.YtmbhmiidelcieaaDoor
