/-
  width's and the document's calls of numbers alone: what they answer at a width.
-/
import Derived.Test.YtoabdoognadijaaDoorWdM
import Derived.Test.YtoabdoognadijaaDoorUiA
import Derived.OwnWalk
import Derived.Deep.RegionHeld3
namespace Go.Proofs.YtoabdoognadijaaDoor
open Go.RowKit

set_option maxRecDepth 100000 in
set_option maxHeartbeats 1000000 in
theorem wvalid_yes {w M H L : Int} (h : Wd w M H L) (W : World) :
    Calls Tryd.prog 15 #[.int .i64 w] W fun e w' => e = .returned .nilIface ∧ w' = W := by
  rcases h with ⟨rfl, rfl, rfl, rfl⟩ | ⟨rfl, rfl, rfl, rfl⟩ | ⟨rfl, rfl, rfl, rfl⟩ | ⟨rfl, rfl, rfl, rfl⟩
  all_goals
    go_enter Tryd.func15, Tryd.ntmps15
    go_wp2
    go_ret
    exact ⟨rfl, rfl⟩
set_option maxRecDepth 100000 in
set_option maxHeartbeats 1000000 in
theorem wmost_any {w M H L : Int} (h : Wd w M H L) (W : World) :
    Calls Tryd.prog 28 #[.int .i64 w] W fun e w' => e = .returned (.int .u64 M) ∧ w' = W := by
  rcases h with ⟨rfl, rfl, rfl, rfl⟩ | ⟨rfl, rfl, rfl, rfl⟩ | ⟨rfl, rfl, rfl, rfl⟩ | ⟨rfl, rfl, rfl, rfl⟩
  all_goals
    go_enter Tryd.func28, Tryd.ntmps28
    go_wp2
    go_ret
    exact ⟨rfl, rfl⟩
set_option maxRecDepth 100000 in
set_option maxHeartbeats 1000000 in
theorem wmostSigned_any {w M H L : Int} (h : Wd w M H L) (W : World) :
    Calls Tryd.prog 27 #[.int .i64 w] W fun e w' => e = .returned (.int .i64 H) ∧ w' = W := by
  rcases h with ⟨rfl, rfl, rfl, rfl⟩ | ⟨rfl, rfl, rfl, rfl⟩ | ⟨rfl, rfl, rfl, rfl⟩ | ⟨rfl, rfl, rfl, rfl⟩
  all_goals
    go_enter Tryd.func27, Tryd.ntmps27
    go_wp2
    go_ret
    exact ⟨rfl, rfl⟩
set_option maxRecDepth 100000 in
set_option maxHeartbeats 1000000 in
theorem wleastSigned_any {w M H L : Int} (h : Wd w M H L) (W : World) :
    Calls Tryd.prog 26 #[.int .i64 w] W fun e w' => e = .returned (.int .i64 L) ∧ w' = W := by
  rcases h with ⟨rfl, rfl, rfl, rfl⟩ | ⟨rfl, rfl, rfl, rfl⟩ | ⟨rfl, rfl, rfl, rfl⟩ | ⟨rfl, rfl, rfl, rfl⟩
  all_goals
    go_enter Tryd.func26, Tryd.ntmps26
    go_wp2
    go_ret
    exact ⟨rfl, rfl⟩
set_option maxRecDepth 100000 in
set_option maxHeartbeats 1000000 in
theorem wnearest_any {w M H L : Int} (h : Wd w M H L) (v : Int) (W : World) :
    Calls Tryd.prog 29 #[.int .i64 v, .int .i64 w] W fun e w' => e = .returned (.int .i64 (nrW L H v)) ∧ w' = W := by
  have HM := fun W => wmostSigned_any h W
  have HL := fun W => wleastSigned_any h W
  have hl := h.low
  have hg := h.ge
  have hLH : L ≤ H := by omega
  clear h hl hg
  by_cases q1 : v < L
  · have HN : Hid (nrW L H v = L) := nrW_low q1
    go_enter Tryd.func29, Tryd.ntmps29
    go_wp2_with fail
    refine (HL _).mono ?_
    rintro e W ⟨rfl, rfl⟩
    go_wp2_with fail
    refine (HM _).mono ?_
    rintro e W ⟨rfl, rfl⟩
    go_wp2
    go_ret
    exact ⟨by rw [HN.out]; rfl, rfl⟩
  · by_cases q2 : H < v
    · have HN : Hid (nrW L H v = H) := nrW_high q1 q2
      have q3 : L ≤ v := by omega
      clear q1 hLH
      go_enter Tryd.func29, Tryd.ntmps29
      go_wp2_with fail
      refine (HL _).mono ?_
      rintro e W ⟨rfl, rfl⟩
      go_wp2_with fail
      refine (HM _).mono ?_
      rintro e W ⟨rfl, rfl⟩
      go_wp2
      go_ret
      exact ⟨by rw [HN.out]; rfl, rfl⟩
    · have HN : Hid (nrW L H v = v) := nrW_in q1 q2
      have q3 : L ≤ v := by omega
      have q4 : v ≤ H := by omega
      clear q1 q2 hLH
      go_enter Tryd.func29, Tryd.ntmps29
      go_wp2_with fail
      refine (HL _).mono ?_
      rintro e W ⟨rfl, rfl⟩
      go_wp2_with fail
      refine (HM _).mono ?_
      rintro e W ⟨rfl, rfl⟩
      go_wp2
      go_ret
      exact ⟨by rw [HN.out]; rfl, rfl⟩
theorem results_tmp4 {fn : Func} {t u v x : Tmp} (h : fn.results = #[.tmp t, .tmp u, .tmp v, .tmp x]) (tmps : Array Value) (P : Program) (w : World) :
    (results fn tmps).run P w = .ok (.tuple #[tmps.getD t undef, tmps.getD u undef, tmps.getD v undef, tmps.getD x undef]) w := by
  simp [results, h]
set_option maxRecDepth 100000 in
set_option maxHeartbeats 1000000 in
theorem wbounds_yes {w M H L : Int} (h : Wd w M H L) (W : World) :
    Calls Tryd.prog 7 #[.int .i64 w] W fun e w' => e = .returned (.tuple #[.int .i64 L, .int .i64 H, .int .u64 M, .nilIface]) ∧ w' = W := by
  have VY := fun W => wvalid_yes h W
  have HM := fun W => wmost_any h W
  have HH := fun W => wmostSigned_any h W
  have HL := fun W => wleastSigned_any h W
  clear h
  go_enter Tryd.func7, Tryd.ntmps7
  go_wp2_with fail
  refine (VY _).mono ?_
  rintro e W ⟨rfl, rfl⟩
  go_wp2_with fail
  refine (HL _).mono ?_
  rintro e W ⟨rfl, rfl⟩
  go_wp2_with fail
  refine (HH _).mono ?_
  rintro e W ⟨rfl, rfl⟩
  go_wp2_with fail
  refine (HM _).mono ?_
  rintro e W ⟨rfl, rfl⟩
  go_wp2
  (try simp only [Exit.inBlock, Exit.then])
  refine bodyPost_ret (results_tmp4 rfl _ _ _) rfl ?_
  exact ⟨rfl, rfl⟩
set_option maxRecDepth 100000 in
set_option maxHeartbeats 1000000 in
theorem wclamp_yes {w M H L : Int} (h : Wd w M H L) (v : Int) (W : World) :
    Calls Tryd.prog 11 #[.int .i64 v, .int .i64 w] W fun e w' => e = .returned (.tuple #[.int .i64 (nrW L H v), .nilIface]) ∧ w' = W := by
  have VY := fun W => wvalid_yes h W
  have NR := fun W => wnearest_any h v W
  clear h
  generalize nrW L H v = N at *
  go_enter Tryd.func11, Tryd.ntmps11
  go_wp2_with fail
  refine (VY _).mono ?_
  rintro e W ⟨rfl, rfl⟩
  go_wp2_with fail
  refine (NR _).mono ?_
  rintro e W ⟨rfl, rfl⟩
  go_wp2
  go_ret2
  exact ⟨rfl, rfl⟩
set_option maxRecDepth 100000 in
set_option maxHeartbeats 1000000 in
theorem wcut_yes {w M H L : Int} (h : Wd w M H L) (v : Nat) (hv : v < 18446744073709551616) (W : World) :
    Calls Tryd.prog 9 #[.int .u64 (v : Int), .int .i64 w] W fun e w' => e = .returned (.tuple #[.int .u64 ((v : Int) % (M + 1)), .int .i64 (sgW M H ((v : Int) % (M + 1))), .nilIface]) ∧ Below W.heap.size W w' := by
  have VY := fun W => wvalid_yes h W
  have HM := fun W => wmost_any h W
  have HK : Hid (_ = _) := mask_wd h v hv
  rcases h with ⟨rfl, rfl, rfl, rfl⟩ | ⟨rfl, rfl, rfl, rfl⟩ | ⟨rfl, rfl, rfl, rfl⟩ | ⟨rfl, rfl, rfl, rfl⟩
  · have HS : Hid (_ = _) := high_8 v
    clear hv
    go_enter Tryd.func9, Tryd.ntmps9
    go_wp2_with fail
    refine (VY _).mono ?_
    rintro e W ⟨rfl, rfl⟩
    go_wp2_with fail
    go_region_held3 (fun _ => True) (trivial) (first | (go_at_call 28; refine (HM _).mono ?_; rintro e w3 ⟨rfl, hw⟩; subst hw))
    all_goals
      go_wp2
      go_ret3
      exact ⟨by rw [← HS.out, ← HK.out]; rfl, (Below.refl _ _).drew⟩
  · have HS : Hid (_ = _) := high_16 v
    clear hv
    go_enter Tryd.func9, Tryd.ntmps9
    go_wp2_with fail
    refine (VY _).mono ?_
    rintro e W ⟨rfl, rfl⟩
    go_wp2_with fail
    go_region_held3 (fun _ => True) (trivial) (first | (go_at_call 28; refine (HM _).mono ?_; rintro e w3 ⟨rfl, hw⟩; subst hw))
    all_goals
      go_wp2
      go_ret3
      exact ⟨by rw [← HS.out, ← HK.out]; rfl, (Below.refl _ _).drew⟩
  · have HS : Hid (_ = _) := high_32 v
    clear hv
    go_enter Tryd.func9, Tryd.ntmps9
    go_wp2_with fail
    refine (VY _).mono ?_
    rintro e W ⟨rfl, rfl⟩
    go_wp2_with fail
    go_region_held3 (fun _ => True) (trivial) (first | (go_at_call 28; refine (HM _).mono ?_; rintro e w3 ⟨rfl, hw⟩; subst hw))
    all_goals
      go_wp2
      go_ret3
      exact ⟨by rw [← HS.out, ← HK.out]; rfl, (Below.refl _ _).drew⟩
  · have HS : Hid (_ = _) := high_64 v
    clear hv
    go_enter Tryd.func9, Tryd.ntmps9
    go_wp2_with fail
    refine (VY _).mono ?_
    rintro e W ⟨rfl, rfl⟩
    go_wp2_with fail
    go_region_held3 (fun _ => True) (trivial) (first | (go_at_call 28; refine (HM _).mono ?_; rintro e w3 ⟨rfl, hw⟩; subst hw))
    all_goals
      go_wp2
      go_ret3
      exact ⟨by rw [← HS.out, ← HK.out]; rfl, (Below.refl _ _).drew⟩
end Go.Proofs.YtoabdoognadijaaDoor
