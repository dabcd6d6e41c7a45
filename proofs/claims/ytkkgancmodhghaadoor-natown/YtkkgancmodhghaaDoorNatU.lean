/-
  What the call of nat.Shr answers, for numbers and every distance from 0 on.
-/
import Derived.Test.YtkkgancmodhghaaDoorNatR
namespace Go.Proofs.YtkkgancmodhghaaDoor
open Go.RowKit

set_option maxRecDepth 100000 in
set_option maxHeartbeats 1000000 in
theorem shiftDown_far {w : World} {ao : Option Addr} {n c s q : Nat} (hq : s / 64 = q) (hqn : n ≤ q) (hs : s < 9223372036854775808) :
    Calls Tryd.prog 65 #[.slice ao n c, .int .i64 (s : Int)] w fun e w' => e = .returned (.tuple #[.slice none 0 0, .bool (decide (0 < n))]) ∧ w' = w := by
  have e1 : (s : Int) / 64 = (q : Int) := by omega
  have e2 : (n : Int) ≤ (q : Int) := by omega
  have hq2 : q < 9223372036854775808 := by omega
  have e3 : decide ((0 : Int) < (n : Int)) = decide (0 < n) := by
    by_cases z : 0 < n
    · rw [decide_eq_true z, decide_eq_true (by omega)]
    · rw [decide_eq_false z, decide_eq_false (by omega)]
  rw [← e3]
  clear e3 hqn hq
  go_enter Tryd.func65, Tryd.ntmps65
  go_wp2
  refine bodyPost_ret (v := .tuple #[.slice none 0 0, .bool (decide ((0 : Int) < (n : Int)))]) (by simp [results, Tryd.results65, go_sem]) rfl ⟨rfl, rfl⟩

set_option maxRecDepth 100000 in
set_option maxHeartbeats 1000000 in
theorem shr_ok {w : World} (hT : Tab w) {va : Value} {X : Nat} (ha : NatV w va X) (s : Nat) (hs : s < 9223372036854775808) :
    Calls Tryd.prog 33 #[va, .int .i64 (s : Int)] w fun e w' => ∃ v, e = .returned (.tuple #[v, .bool (decide (X % 2 ^ s ≠ 0)), .nilIface]) ∧ NatV w' v (X / 2 ^ s) ∧ Below w.heap.size w w' := by
  obtain ⟨ao, n, c, b, o, f, rfl, S, t, rfl, hn⟩ := ha
  have h1 := valid_any S
  rw [verr_ok hn t] at h1
  unfold errV at h1
  have cs : (0 : Int) ≤ (s : Int) := by omega
  have HS : Hid (Sl w ao n c b o f) := S
  have HV : Hid (V f n < B ^ n) := V_lt S.ws n
  have HT : Hid (Top f n) := t
  by_cases hqn : n ≤ s / 64
  · have lt : V f n < 2 ^ s := by
      refine Nat.lt_of_lt_of_le HV.out ?_
      rw [twoB_pow]
      exact Nat.pow_le_pow_right (by omega) (by omega)
    have eq : V f n / 2 ^ s = 0 := Nat.div_eq_of_lt lt
    have er : decide (V f n % 2 ^ s ≠ 0) = decide (0 < n) := by
      rw [Nat.mod_eq_of_lt lt]
      by_cases z : 0 < n
      · have q := Top_ge t z
        have := Bp_pos (n - 1)
        rw [decide_eq_true z, decide_eq_true (by omega)]
      · have : n = 0 := by omega
        subst this
        rfl
    rw [eq, er]
    have TN : Calls Tryd.prog 52 #[.slice none 0 0] w fun e w' => e = .returned (.slice none (tl (fun _ => 0) 0) (tl (fun _ => 0) 0)) ∧ w' = w :=
      trim_any (n := 0) (c := 0) (b := 0) (o := 0) (f := fun _ => 0) ⟨Nat.le_refl _, Nat.zero_le _, fun h => absurd h (by omega), fun h => absurd h (by omega), fun i h => absurd h (by omega), fun _ => B_pos⟩
    obtain ⟨Z, hZ⟩ : ∃ Z, Z = decide (0 < n) := ⟨_, rfl⟩
    rw [← hZ]
    have HZ : Hid (decide (0 < n) = Z) := hZ.symm
    clear TN lt eq er S t hZ
    go_enter Tryd.func33, Tryd.ntmps33
    go_wp2_with fail
    refine h1.mono ?_
    rintro e wa ⟨rfl, hba⟩
    have SD := shiftDown_far (w := wa) (ao := ao) (c := c) (s := s) (n := n) rfl hqn hs
    rw [HZ.out] at SD
    go_wp2_with fail
    refine SD.mono ?_
    rintro e wb ⟨rfl, rfl⟩
    have TN : Calls Tryd.prog 52 #[.slice none 0 0] wb fun e w' => e = .returned (.slice none (tl (fun _ => 0) 0) (tl (fun _ => 0) 0)) ∧ w' = wb :=
      trim_any (n := 0) (c := 0) (b := 0) (o := 0) (f := fun _ => 0) ⟨Nat.le_refl _, Nat.zero_le _, fun h => absurd h (by omega), fun h => absurd h (by omega), fun i h => absurd h (by omega), fun _ => B_pos⟩
    go_wp2_with fail
    refine TN.mono ?_
    rintro e wc ⟨rfl, rfl⟩
    go_wp2
    refine bodyPost_ret (v := .tuple #[.slice none 0 0, .bool Z, .nilIface]) (by simp [results, Tryd.results33, go_sem, tl]) rfl ⟨_, rfl, natv_nil _, hba⟩
  · have hv0 : V f n ≠ 0 := by
      have q := Top_ge t (by omega)
      have := Bp_pos (n - 1)
      omega
    obtain ⟨q, p, hsq, hp⟩ : ∃ q p, s = 64 * q + p ∧ p < 64 := ⟨s / 64, s % 64, by omega, by omega⟩
    have hqn2 : q < n := by omega
    have HQ : Hid (s = 64 * q + p) := hsq
    have H0 : Hid (V f n ≠ 0) := hv0
    have HL : Hid (V f n / 2 ^ s < B ^ 128) := Nat.lt_of_le_of_lt (Nat.div_le_self _ _) (Nat.lt_of_lt_of_le HV.out (Nat.pow_le_pow_right B_pos hn))
    clear hv0 hsq S t hqn
    obtain ⟨Z, hZ⟩ : ∃ Z, Z = decide (V f n % 2 ^ s ≠ 0) := ⟨_, rfl⟩
    rw [← hZ]
    have HZ : Hid (decide (V f n % 2 ^ s ≠ 0) = Z) := hZ.symm
    clear hZ
    go_enter Tryd.func33, Tryd.ntmps33
    go_wp2_with fail
    refine h1.mono ?_
    rintro e wa ⟨rfl, hba⟩
    have SD := shiftDown_any (hT.next hba) (HS.out.below hba) (by omega) s q p HQ.out hp hqn2 H0.out
    rw [HZ.out] at SD
    clear h1
    go_wp2_with fail
    refine SD.mono ?_
    rintro e wb ⟨rfl, hbb, F, R, hv⟩
    obtain ⟨nv, hl⟩ := natv_tl R (by unfold maxLen; omega) hv HL.out
    have BB : Below w.heap.size w wb := hba.trans (hbb.mono hba.size)
    have TT := trim_any (row_sl0 R (by unfold maxLen; omega))
    go_wp2_with fail
    refine TT.mono ?_
    rintro e w4 ⟨rfl, rfl⟩
    go_wp2
    refine bodyPost_ret (v := .tuple #[.slice (some ⟨wa.heap.size, 0, none⟩) (tl F (n - q)) (tl F (n - q)), .bool Z, .nilIface]) (by simp [results, Tryd.results33, go_sem]) rfl ⟨_, rfl, nv, BB⟩

end Go.Proofs.YtkkgancmodhghaaDoor
