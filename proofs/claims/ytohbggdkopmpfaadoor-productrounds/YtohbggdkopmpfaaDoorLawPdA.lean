/-
  What a sure answer of product's Round is; what the law's own sure answers.
-/
import Derived.Test.YtohbggdkopmpfaaDoorPpE
namespace Go.Proofs.YtohbggdkopmpfaaDoor
open Go.RowKit

theorem upM_same (M m : Nat) : M * m = upN M m true false := by unfold upN upM; simp
/-- Exact powers: sure, and the number rounded. -/
theorem Rnd.few {f T : Nat} {L c : Int} {m x : Nat} {ok : Bool} (h : Rnd f T L c m false x ok) (c0 : 0 ≤ c) (c1 : c ≤ 55) : ok = true ∧ NrT f T L (m * pN c) (pD c) 0 0 x := by
  obtain ⟨M, E, hP, h⟩ := h
  have e : decide (0 ≤ c ∧ c ≤ 55) = true := decide_eq_true ⟨c0, c1⟩
  rw [e] at h
  rcases h with ⟨_, h1, h2⟩ | ⟨h1, _⟩
  · refine ⟨h1, ?_⟩
    rw [Nat.mul_comm] at h2
    exact (NrT_iff (pD_pos c) Nat.one_pos (pw_same ((pw_exact hP).2 ⟨c0, c1⟩) m) x).2 h2
  · exact absurd (upM_same M m) h1
theorem few_rise {f T : Nat} {L c : Int} {m m' x y : Nat} (hm : m ≤ m') (h : NrT f T L (m * pN c) (pD c) 0 0 x) (k : NrT f T L (m' * pN c) (pD c) 0 0 y) : x ≤ y := by
  refine NrT.rise (pD_pos c) (pD_pos c) ?_ (.inl (Int.le_refl _)) h k
  refine ⟨0, Int.le_refl _, Int.le_refl _, ?_⟩
  rw [ev_self, ev_self]
  exact Nat.mul_le_mul_right _ (Nat.mul_le_mul_right _ hm)
theorem fifteen {x : Nat} (h : NrT 52 2047 (-1074) (15 * pN 0) (pD 0) 0 0 x) : x = 4624633867356078080 := by
  refine NrT.uniq (pD_pos 0) h (NrT_val (pD_pos 0) (by decide) ?_)
  exact ⟨-49, by decide, by decide, by decide +kernel⟩
set_option maxRecDepth 100000 in
set_option maxHeartbeats 1000000 in
theorem sure15 (w : World) (hT : Tab w) : Calls Tryd.prog 9 #[] w fun e w' => e = .returned (.bool true) ∧ Below w.heap.size w w' := by
  have R := round_ok (s := 64) (.inr ⟨rfl, rfl, rfl, rfl, rfl, rfl⟩) (m := 15) (by decide) 0 false w hT
  rw [show clE 0 = 0 from by decide] at R
  go_enter Tryd.func9, Tryd.ntmps9
  go_wp2_with fail
  refine R.mono ?_
  rintro e w1 ⟨x, ok, rfl, hr, hb⟩
  obtain ⟨rfl, hn⟩ := hr.few (by decide) (by decide)
  obtain rfl := fifteen hn
  have B1 : Hid (Below w.heap.size w w1) := hb
  clear hr hn hb R
  go_wp2
  go_ret
  exact ⟨rfl, B1.out⟩
end Go.Proofs.YtohbggdkopmpfaaDoor
