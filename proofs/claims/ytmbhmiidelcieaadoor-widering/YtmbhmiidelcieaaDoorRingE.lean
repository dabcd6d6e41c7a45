/-
  The statement WideRing, where the divisor is not 0 and the distance is from 0 to 127: the call returns true.
-/
import Derived.Test.YtmbhmiidelcieaaDoorRingA
namespace Go.Proofs.YtmbhmiidelcieaaDoor
open Go.RowKit

set_option maxRecDepth 100000 in
set_option maxHeartbeats 4000000 in
theorem law_ring_ni (ah al bh bl c n : Int) (h1 : Word ah) (h2 : Word al) (h3 : Word bh) (h4 : Word bl) (h5 : Word c) (hc0 : 0 < c) (n0 : 0 ≤ n) (n1 : n < 128) (w : World) (hT : Tab w) :
    Calls Tryd.prog 6 #[.agg #[.int .u64 ah, .int .u64 al], .agg #[.int .u64 bh, .int .u64 bl], .agg #[.int .u64 c, .int .i64 n]] w fun e w' => e = .returned (.bool true) ∧ Below w.heap.size w w' := by
  have hV : ah * 18446744073709551616 + al = (val ah al : Int) := (val_int h1 h2).symm
  have hvl := val_lt h1 h2
  have x1 := add_comm_hi ah al bh bl
  have x2 := add_comm_lo al bl
  have x3 := back_hi (bh := bh) h1 h2 h4
  have x4 := back_lo (bl := bl) h2
  have wS := sHi_word ah al bh bl
  have wL := sLo_word al bl
  have y1 := hiW_val h1 h2
  have y2 := loW_val h1 h2
  obtain ⟨k1, k2, k3, k4⟩ := quot_back h1 h2 h5 hc0
  obtain ⟨kw1, kw2⟩ := divw_words h1 h2 h5 hc0
  have kr := dvR_word (hi := ah % c) (lo := al) h5 hc0
  have hcz : (c == 0) = false := by simp; omega
  have hcn : (c != 0) = true := by simp; omega
  have hD := fun w0 => wdivw_any ah al c h1 h2 h5 hc0 w0
  generalize ah / c = q1 at *
  generalize dvQ (ah % c) al c = q0 at *
  generalize dvR (ah % c) al c = rr at *
  have kr1 := kr.1
  have kr2 : decide (c ≤ rr) = false := by have := kr.2; simp; omega
  clear kr
  have km := m3Mid_word q1 q0 c
  have kl := mLo_word q0 c
  have w00 : Word 0 := ⟨by omega, by omega⟩
  have hM := fun w0 => wmulw_any q1 q0 c kw1 kw2 h5 w0
  have hA := fun w0 => wadd_any (m3Mid q1 q0 c) (mLo q0 c) 0 rr km kl w00 kr1 w0
  rw [k1] at hM
  rw [k2, k3, k4] at hA
  generalize m3Mid q1 q0 c = mm at *
  generalize mLo q0 c = ml at *
  clear k1 k2 k3 k4 kw1 kw2 km kl kr1
  obtain ⟨r1, r2, r3, r4, r5⟩ := ring_shift h1 h2 n1
  have wr1 := hiW_word (shr_lt hvl n)
  have wr2 := loW_word (shr (val ah al) n)
  have wr3 : Word (hiW (shl (shr (val ah al) n) n)) := hiW_word (shl_lt _ _)
  have wr4 := loW_word (shl (shr (val ah al) n) n)
  have w00' : Word 0 := ⟨by omega, by omega⟩
  have w01 : Word 1 := ⟨by omega, by omega⟩
  have gR := fun w0 ht => wright_any ah al n h1 h2 w0 ht
  have gL := fun w0 => wleft_any (hiW (shr (val ah al) n)) (loW (shr (val ah al) n)) n wr1 wr2 w0
  have gS := fun w0 => wsub_any ah al (hiW (shl (shr (val ah al) n) n)) (loW (shl (shr (val ah al) n) n)) h1 h2 wr3 wr4 w0
  have gO := fun w0 => wleft_any 0 1 n w00' w01 w0
  rw [r3, Bool.not_and] at gR
  rw [val_hl] at gL
  rw [r1, r2] at gS
  clear r1 r2 r3 wr1 wr2 wr3 wr4 w00' w01
  generalize hiW (val ah al % 2 ^ n.toNat) = rh at *
  generalize loW (val ah al % 2 ^ n.toNat) = rl at *
  generalize hiW (shl (val 0 1) n) = oh at *
  generalize loW (shl (val 0 1) n) = ol at *
  generalize hiW (shl (shr (val ah al) n) n) = kh at *
  generalize loW (shl (shr (val ah al) n) n) = kl' at *
  generalize hiW (shr (val ah al) n) = lh at *
  generalize loW (shr (val ah al) n) = ll at *
  generalize dUn ah al kh kl' = ub at *
  have r4' : decide (0 < cmp kh kl' ah al) = false := by simp; omega
  have r5' : decide (0 ≤ cmp rh rl oh ol) = false := by simp; omega
  clear r4 r5
  have HVV : Hid (ah * 18446744073709551616 + al = (val ah al : Int)) := hV
  have HVL : Hid (val ah al < 340282366920938463463374607431768211456) := hvl
  clear hV hvl
  go_enter Tryd.func6, Tryd.ntmps6
  go_wp2
  go_region
  go_wp2_with fail
  refine (wadd_any ah al bh bl h1 h2 h3 h4 _).mono ?_
  rintro e wa ⟨rfl, hba⟩
  obtain ⟨hca, hfa⟩ := bcell hba
  have sa := hba.size
  try simp at hca hfa sa
  have za : w.heap.size < wa.heap.size := by omega
  have zza : w.heap.size + 1 < wa.heap.size := by omega
  have BWa : Below w.heap.size w wa := (((((Below.refl _ _).alloc (Nat.le_refl _) _).alloc (by simp) _).alloc (by simp; omega) _).drew).trans (hba.mono (by simp; omega))
  have na0a : wa.cell? ⟨w.heap.size, 0, none⟩ = some (.int .u64 ah) := by rw [hca _ _ (by omega), World.cell?_alloc_past _ _ _ (by simp; omega)]; simp
  have na1a : wa.cell? ⟨w.heap.size, 1, none⟩ = some (.int .u64 al) := by rw [hca _ _ (by omega), World.cell?_alloc_past _ _ _ (by simp; omega)]; simp
  go_wp2_with fail
  refine (wadd_any bh bl ah al h3 h4 h1 h2 _).mono ?_
  rintro e wb ⟨rfl, hbb⟩
  obtain ⟨hcb, hfb⟩ := bcell hbb
  have sb := hbb.size
  try simp at hcb hfb sb
  have zb : w.heap.size < wb.heap.size := by omega
  have zzb : w.heap.size + 1 < wb.heap.size := by omega
  have zba : wa.heap.size < wb.heap.size := by omega
  have BWb : Below w.heap.size w wb := by first | exact (BWa.alloc (by omega) _).trans (hbb.mono (by simp; omega)) | exact BWa.trans (hbb.mono (by omega))
  have na0b : wb.cell? ⟨w.heap.size, 0, none⟩ = some (.int .u64 ah) := by first | (rw [hcb _ _ (by omega), World.cell?_alloc_past _ _ _ (by omega)]; exact na0a) | (rw [hcb _ _ (by omega)]; exact na0a)
  have na1b : wb.cell? ⟨w.heap.size, 1, none⟩ = some (.int .u64 al) := by first | (rw [hcb _ _ (by omega), World.cell?_alloc_past _ _ _ (by omega)]; exact na1a) | (rw [hcb _ _ (by omega)]; exact na1a)
  go_wp2_with fail
  refine (wsub_any _ _ bh bl wS wL h3 h4 _).mono ?_
  rintro e wc ⟨rfl, hbc⟩
  obtain ⟨hcc, hfc⟩ := bcell hbc
  have sc := hbc.size
  try simp at hcc hfc sc
  have zc : w.heap.size < wc.heap.size := by omega
  have zzc : w.heap.size + 1 < wc.heap.size := by omega
  have zca : wa.heap.size < wc.heap.size := by omega
  have zcb : wb.heap.size < wc.heap.size := by omega
  have BWc : Below w.heap.size w wc := by first | exact (BWb.alloc (by omega) _).trans (hbc.mono (by simp; omega)) | exact BWb.trans (hbc.mono (by omega))
  have na0c : wc.cell? ⟨w.heap.size, 0, none⟩ = some (.int .u64 ah) := by first | (rw [hcc _ _ (by omega), World.cell?_alloc_past _ _ _ (by omega)]; exact na0b) | (rw [hcc _ _ (by omega)]; exact na0b)
  have na1c : wc.cell? ⟨w.heap.size, 1, none⟩ = some (.int .u64 al) := by first | (rw [hcc _ _ (by omega), World.cell?_alloc_past _ _ _ (by omega)]; exact na1b) | (rw [hcc _ _ (by omega)]; exact na1b)
  go_wp2_with fail
  refine (hD _).mono ?_
  rintro e wd ⟨rfl, hbd⟩
  obtain ⟨hcd, hfd⟩ := bcell hbd
  have sd := hbd.size
  try simp at hcd hfd sd
  have zd : w.heap.size < wd.heap.size := by omega
  have zzd : w.heap.size + 1 < wd.heap.size := by omega
  have BWd : Below w.heap.size w wd := by first | exact (BWc.alloc (by omega) _).trans (hbd.mono (by simp; omega)) | exact BWc.trans (hbd.mono (by omega))
  have na0d : wd.cell? ⟨w.heap.size, 0, none⟩ = some (.int .u64 ah) := by first | (rw [hcd _ _ (by omega), World.cell?_alloc_past _ _ _ (by omega)]; exact na0c) | (rw [hcd _ _ (by omega)]; exact na0c)
  have na1d : wd.cell? ⟨w.heap.size, 1, none⟩ = some (.int .u64 al) := by first | (rw [hcd _ _ (by omega), World.cell?_alloc_past _ _ _ (by omega)]; exact na1c) | (rw [hcd _ _ (by omega)]; exact na1c)
  go_wp2_with fail
  refine (hM _).mono ?_
  rintro e we ⟨rfl, hbe⟩
  obtain ⟨hce, hfe⟩ := bcell hbe
  have se := hbe.size
  try simp at hce hfe se
  have ze : w.heap.size < we.heap.size := by omega
  have zze : w.heap.size + 1 < we.heap.size := by omega
  have BWe : Below w.heap.size w we := by first | exact (BWd.alloc (by omega) _).trans (hbe.mono (by simp; omega)) | exact BWd.trans (hbe.mono (by omega))
  have na0e : we.cell? ⟨w.heap.size, 0, none⟩ = some (.int .u64 ah) := by first | (rw [hce _ _ (by omega), World.cell?_alloc_past _ _ _ (by omega)]; exact na0d) | (rw [hce _ _ (by omega)]; exact na0d)
  have na1e : we.cell? ⟨w.heap.size, 1, none⟩ = some (.int .u64 al) := by first | (rw [hce _ _ (by omega), World.cell?_alloc_past _ _ _ (by omega)]; exact na1d) | (rw [hce _ _ (by omega)]; exact na1d)
  go_wp2_with fail
  refine (hA _).mono ?_
  rintro e wf ⟨rfl, hbf⟩
  obtain ⟨hcf, hff⟩ := bcell hbf
  have sf := hbf.size
  try simp at hcf hff sf
  have zf : w.heap.size < wf.heap.size := by omega
  have zzf : w.heap.size + 1 < wf.heap.size := by omega
  have BWf : Below w.heap.size w wf := by first | exact (BWe.alloc (by omega) _).trans (hbf.mono (by simp; omega)) | exact BWe.trans (hbf.mono (by omega))
  have na0f : wf.cell? ⟨w.heap.size, 0, none⟩ = some (.int .u64 ah) := by first | (rw [hcf _ _ (by omega), World.cell?_alloc_past _ _ _ (by omega)]; exact na0e) | (rw [hcf _ _ (by omega)]; exact na0e)
  have na1f : wf.cell? ⟨w.heap.size, 1, none⟩ = some (.int .u64 al) := by first | (rw [hcf _ _ (by omega), World.cell?_alloc_past _ _ _ (by omega)]; exact na1e) | (rw [hcf _ _ (by omega)]; exact na1e)
  go_wp2_with fail
  refine (gR _ (by first | exact hT.below BWf hT.pos | exact hT.below (BWf.alloc (by omega) _) hT.pos)).mono ?_
  rintro e wg ⟨rfl, hbg⟩
  obtain ⟨hcg, hfg⟩ := bcell hbg
  have sg := hbg.size
  try simp at hcg hfg sg
  have zg : w.heap.size < wg.heap.size := by omega
  have zzg : w.heap.size + 1 < wg.heap.size := by omega
  have BWg : Below w.heap.size w wg := by first | exact (BWf.alloc (by omega) _).trans (hbg.mono (by simp; omega)) | exact BWf.trans (hbg.mono (by omega))
  have na0g : wg.cell? ⟨w.heap.size, 0, none⟩ = some (.int .u64 ah) := by first | (rw [hcg _ _ (by omega), World.cell?_alloc_past _ _ _ (by omega)]; exact na0f) | (rw [hcg _ _ (by omega)]; exact na0f)
  have na1g : wg.cell? ⟨w.heap.size, 1, none⟩ = some (.int .u64 al) := by first | (rw [hcg _ _ (by omega), World.cell?_alloc_past _ _ _ (by omega)]; exact na1f) | (rw [hcg _ _ (by omega)]; exact na1f)
  go_wp2_with fail
  refine (gL _).mono ?_
  rintro e wh ⟨rfl, hbh⟩
  obtain ⟨hch, hfh⟩ := bcell hbh
  have sh := hbh.size
  try simp at hch hfh sh
  have zh : w.heap.size < wh.heap.size := by omega
  have zzh : w.heap.size + 1 < wh.heap.size := by omega
  have BWh : Below w.heap.size w wh := by first | exact (BWg.alloc (by omega) _).trans (hbh.mono (by simp; omega)) | exact BWg.trans (hbh.mono (by omega))
  have na0h : wh.cell? ⟨w.heap.size, 0, none⟩ = some (.int .u64 ah) := by first | (rw [hch _ _ (by omega), World.cell?_alloc_past _ _ _ (by omega)]; exact na0g) | (rw [hch _ _ (by omega)]; exact na0g)
  have na1h : wh.cell? ⟨w.heap.size, 1, none⟩ = some (.int .u64 al) := by first | (rw [hch _ _ (by omega), World.cell?_alloc_past _ _ _ (by omega)]; exact na1g) | (rw [hch _ _ (by omega)]; exact na1g)
  go_wp2_with fail
  refine (gS _).mono ?_
  rintro e wi ⟨rfl, hbi⟩
  obtain ⟨hci, hfi⟩ := bcell hbi
  have si := hbi.size
  try simp at hci hfi si
  have zi : w.heap.size < wi.heap.size := by omega
  have zzi : w.heap.size + 1 < wi.heap.size := by omega
  have zih : wh.heap.size < wi.heap.size := by omega
  have BWi : Below w.heap.size w wi := by first | exact (BWh.alloc (by omega) _).trans (hbi.mono (by simp; omega)) | exact BWh.trans (hbi.mono (by omega))
  have na0i : wi.cell? ⟨w.heap.size, 0, none⟩ = some (.int .u64 ah) := by first | (rw [hci _ _ (by omega), World.cell?_alloc_past _ _ _ (by omega)]; exact na0h) | (rw [hci _ _ (by omega)]; exact na0h)
  have na1i : wi.cell? ⟨w.heap.size, 1, none⟩ = some (.int .u64 al) := by first | (rw [hci _ _ (by omega), World.cell?_alloc_past _ _ _ (by omega)]; exact na1h) | (rw [hci _ _ (by omega)]; exact na1h)
  go_wp2_with fail
  have nh0 : wi.cell? ⟨wh.heap.size, 0, none⟩ = some (.int .u64 kh) := by rw [hci _ _ (by omega)]; simp
  have nh1 : wi.cell? ⟨wh.heap.size, 1, none⟩ = some (.int .u64 kl') := by rw [hci _ _ (by omega)]; simp
  have t0 : w.heap.size < wi.heap.size + 1 := by omega
  have t1 : wh.heap.size < wi.heap.size + 1 := by omega
  clear hca hfa hcb hfb hcc hfc hcd hfd hcg hfg hch hfh hci hfi hba hbb hbc hbd hbg hbh hbi na0a na1a na0b na1b na0c na1c na0d na1d na0g na1g na0h na1h x1 x2 x3 x4 wS wL gR gL gS hT BWa BWb BWc BWd BWg BWh hce hfe hcf hff hbe hbf na0e na1e na0f na1f BWe BWf hD hM hA
  have hsp : ((rh == 0) = true ∧ (rl == 0) = true) ∨ ((rh == 0) = true ∧ (rl == 0) = false) ∨ (rh == 0) = false := by cases (rh == 0) <;> cases (rl == 0) <;> simp
  rcases hsp with ⟨p1, p2⟩ | ⟨p1, p2⟩ | p1
  all_goals
    go_region_held3 (fun w' => w'.cell? ⟨w.heap.size, 0, none⟩ = some (.int .u64 (ah)) ∧ w'.cell? ⟨w.heap.size, 1, none⟩ = some (.int .u64 (al)) ∧ w'.cell? ⟨wh.heap.size, 0, none⟩ = some (.int .u64 (kh)) ∧ w'.cell? ⟨wh.heap.size, 1, none⟩ = some (.int .u64 (kl')) ∧ w'.cell? ⟨wi.heap.size, 0, none⟩ = some (.int .u64 (rh)) ∧ w'.cell? ⟨wi.heap.size, 1, none⟩ = some (.int .u64 (rl))) (simp [*, go_sem, World.cell?_alloc_past])
      (first
        | (go_at_call_of 26 (Value.int .u64 kh); refine (wcmp_any kh kl' ah al _).mono ?_; rintro e wj ⟨rfl, hbj⟩; obtain ⟨hcj, hfj⟩ := bcell hbj; have sj := hbj.size; simp at hcj hfj sj; have wj0 : w.heap.size < wj.heap.size := (by omega); have wj1 : wh.heap.size < wj.heap.size := (by omega); have wj2 : wi.heap.size < wj.heap.size := (by omega))
        | (go_at_call 9; refine (gO _).mono ?_; rintro e wk ⟨rfl, hbk⟩; obtain ⟨hck, hfk⟩ := bcell hbk; have sk := hbk.size; have wk0 : w.heap.size < wk.heap.size := (by omega); have wk1 : wh.heap.size < wk.heap.size := (by omega); have wk2 : wi.heap.size < wk.heap.size := (by omega))
        | (go_at_call_of 26 (Value.int .u64 oh); refine (wcmp_any rh rl oh ol _).mono ?_; rintro e wl ⟨rfl, hbl⟩; obtain ⟨hcl, hfl⟩ := bcell hbl; have sl := hbl.size; have wl0 : w.heap.size < wl.heap.size := (by omega); have wl1 : wh.heap.size < wl.heap.size := (by omega); have wl2 : wi.heap.size < wl.heap.size := (by omega)))
    have BWl : Below w.heap.size w wl := (((BWi.alloc (by omega) _).drew.trans (hbj.mono (by simp; omega))).trans (hbk.mono (by omega))).trans (hbl.mono (by omega))
    have na0l : wl.cell? ⟨w.heap.size, 0, none⟩ = some (.int .u64 ah) := by rw [hcl _ _ (by omega), hck _ _ (by omega), hcj _ _ (by omega), World.cell?_alloc_past _ _ _ (by omega)]; exact na0i
    have na1l : wl.cell? ⟨w.heap.size, 1, none⟩ = some (.int .u64 al) := by rw [hcl _ _ (by omega), hck _ _ (by omega), hcj _ _ (by omega), World.cell?_alloc_past _ _ _ (by omega)]; exact na1i
    go_wp2_with fail
    refine (wtext_any ah al (val ah al) HVV.out h1 h2 _).mono ?_
    rintro e wm ⟨rfl, hbm⟩
    obtain ⟨hcm, hfm⟩ := bcell hbm
    have sm := hbm.size
    try simp at hcm hfm sm
    have zm : w.heap.size < wm.heap.size := by omega
    have zzm : w.heap.size + 1 < wm.heap.size := by omega
    have BWm : Below w.heap.size w wm := by first | exact (BWl.alloc (by omega) _).trans (hbm.mono (by simp; omega)) | exact BWl.trans (hbm.mono (by omega))
    have na0m : wm.cell? ⟨w.heap.size, 0, none⟩ = some (.int .u64 ah) := by first | (rw [hcm _ _ (by omega), World.cell?_alloc_past _ _ _ (by omega)]; exact na0l) | (rw [hcm _ _ (by omega)]; exact na0l)
    have na1m : wm.cell? ⟨w.heap.size, 1, none⟩ = some (.int .u64 al) := by first | (rw [hcm _ _ (by omega), World.cell?_alloc_past _ _ _ (by omega)]; exact na1l) | (rw [hcm _ _ (by omega)]; exact na1l)
    go_wp2_with fail
    refine (wread_txt (val ah al) HVL.out _).mono ?_
    rintro e wn ⟨rfl, hbn⟩
    obtain ⟨hcn, hfn⟩ := bcell hbn
    have sn := hbn.size
    try simp at hcn hfn sn
    have zn : w.heap.size < wn.heap.size := by omega
    have zzn : w.heap.size + 1 < wn.heap.size := by omega
    have BWn : Below w.heap.size w wn := by first | exact (BWm.alloc (by omega) _).trans (hbn.mono (by simp; omega)) | exact BWm.trans (hbn.mono (by omega))
    have na0n : wn.cell? ⟨w.heap.size, 0, none⟩ = some (.int .u64 ah) := by first | (rw [hcn _ _ (by omega), World.cell?_alloc_past _ _ _ (by omega)]; exact na0m) | (rw [hcn _ _ (by omega)]; exact na0m)
    have na1n : wn.cell? ⟨w.heap.size, 1, none⟩ = some (.int .u64 al) := by first | (rw [hcn _ _ (by omega), World.cell?_alloc_past _ _ _ (by omega)]; exact na1m) | (rw [hcn _ _ (by omega)]; exact na1m)
    go_wp2_with fail
    refine (sure_any _).mono ?_
    rintro e wo ⟨rfl, hbo⟩
    have bo : Below w.heap.size w wo := by first | exact (BWn.alloc (by omega) _).trans (hbo.mono (by simp; omega)) | exact BWn.trans (hbo.mono (by omega))
    go_wp2
    go_ret
    exact ⟨rfl, bo⟩

end Go.Proofs.YtmbhmiidelcieaaDoor
