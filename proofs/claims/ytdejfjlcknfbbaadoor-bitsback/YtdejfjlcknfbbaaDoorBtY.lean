/-
  bits' nearest is the nearest float of 32 bits.
-/
import Derived.Test.YtdejfjlcknfbbaaDoorBtX
namespace Go.Proofs.YtdejfjlcknfbbaaDoor
open Go.RowKit

theorem nearest_any {m : Nat} {p : Int} (m0 : m ≠ 0) (hm : m < 9007199254740992) (hp0 : -1074 ≤ p) (hp1 : p ≤ 971) (hc : 4503599627370496 ≤ m ∨ p = -1074) (w : World) :
    Calls Tryd.prog 58 #[.agg #[.int .u64 2147483648, .int .u64 2139095040, .int .i64 23, .int .i64 (-149)], .int .u64 (m : Int), .int .i64 p] w fun e w' => e = .returned (.tuple #[.int .u64 ((nw m p).1 : Int), .bool (nw m p).2]) ∧ Below w.heap.size w w' := by
  have l53 : ln m ≤ 53 := (ln_iff m 53).2 hm
  have lc : ln m = 53 ∨ p = -1074 := by
    rcases hc with h | h
    · left
      have : ¬ ln m ≤ 52 := fun x => by
        have := (ln_iff m 52).1 x
        omega
      omega
    · exact .inr h
  have lp := ln_pos m0
  obtain ⟨s, hs⟩ : ∃ s, s = sN m p := ⟨_, rfl⟩
  have hs' : s = max (ln m - 24) (-149 - p).toNat := hs
  have hu : min (24 - (ln m : Int)) (p + 149) = -(s : Int) := by omega
  have s0 : 0 < s := by omega
  have s1 : s ≤ 2000 := by omega
  by_cases q : ln m < s
  · rw [nw_low (by rw [← hs]; exact q)]
    exact near_low hm hp0 hp1 hu s0 s1 q w
  · rw [nw_near m0 (by rw [← hs]; exact q) (by rw [← hs]; exact s0) (by rw [← hs]; omega), ← hs]
    obtain ⟨j, hj⟩ : ∃ j, s = j + 1 := ⟨s - 1, by omega⟩
    obtain ⟨Q, hQ⟩ : ∃ Q, m / 2 ^ s = Q := ⟨_, rfl⟩
    obtain ⟨P, hP⟩ : ∃ P, Q * 2 ^ s = P := ⟨_, rfl⟩
    obtain ⟨R, hR⟩ : ∃ R, m - P = R := ⟨_, rfl⟩
    obtain ⟨H, hH⟩ : ∃ H, 2 ^ j = H := ⟨_, rfl⟩
    have dm := Nat.div_add_mod m (2 ^ s)
    rw [hQ, Nat.mul_comm, hP] at dm
    have hPm : P ≤ m := by omega
    have hRm : m % 2 ^ s = R := by omega
    have hQ24 : Q < 16777216 := by
      have := (div_ln m s 24).2 (by omega)
      rw [hQ] at this
      exact this
    obtain ⟨k, hk⟩ : ∃ k : Nat, p + (s : Int) = -149 + (k : Int) := ⟨(p + s + 149).toNat, by omega⟩
    have el : ∀ X, ly 23 (-149) X (p + (s : Int)) = k * 8388608 + X := fun X => by
      unfold ly
      rw [show (p + (s : Int) - -149).toNat = k by omega]
    have hbb : decide (m % 2 ^ s = 0) = ((R : Int) == 0) := by
      rw [hRm, Bool.eq_iff_iff]
      simp
    have hrb : rB m s = decide (0 < s ∧ (H < R ∨ (R = H ∧ Q % 2 = 1))) := by
      unfold rB
      rw [hRm, hQ, show s - 1 = j by omega, hH]
    have rT : (0 < s ∧ (H < R ∨ (R = H ∧ Q % 2 = 1))) → rB m s = true := fun x => by rw [hrb, decide_eq_true x]
    have rF : ¬ (0 < s ∧ (H < R ∨ (R = H ∧ Q % 2 = 1))) → rB m s = false := fun x => by rw [hrb, decide_eq_false x]
    clear hrb lc hs hs'
    by_cases g : H < R
    · have b := rT ⟨s0, .inl g⟩
      have r : rN m s = Q + 1 := by
        unfold rN
        rw [b, hQ]
        rfl
      rw [r]
      by_cases q3 : 104 < p + (s : Int)
      · rw [if_pos q3]
        exact near_gt_inf hm hp0 hp1 hu s0 s1 q hj hQ hP hR hPm hH g q3 w
      · rw [if_neg q3, el, hbb]
        exact near_gt_fin hm hp0 hp1 hu s0 s1 q hj hQ hP hR hPm hH g q3 hk (by omega) w
    · by_cases t : R = H
      · have t1 : ((R : Int) == (H : Int)) = true := by simp; omega
        by_cases o : Q % 2 = 1
        · have b := rT ⟨s0, .inr ⟨t, o⟩⟩
          have t2 : ((Q : Int) % 2 == 1) = true := by simp; omega
          have r : rN m s = Q + 1 := by
            unfold rN
            rw [b, hQ]
            rfl
          rw [r]
          by_cases q3 : 104 < p + (s : Int)
          · rw [if_pos q3]
            exact near_odd_inf hm hp0 hp1 hu s0 s1 q hj hQ hP hR hPm hH g t1 t2 q3 w
          · rw [if_neg q3, el, hbb]
            exact near_odd_fin hm hp0 hp1 hu s0 s1 q hj hQ hP hR hPm hH g t1 t2 q3 hk (by omega) w
        · have b := rF (by rintro ⟨_, x | ⟨_, x⟩⟩ <;> omega)
          have t2 : ((Q : Int) % 2 == 1) = false := by simp; omega
          have r : rN m s = Q := by
            unfold rN
            rw [b, hQ]
            exact Nat.add_zero Q
          rw [r]
          by_cases q3 : 104 < p + (s : Int)
          · rw [if_pos q3]
            exact near_even_inf hm hp0 hp1 hu s0 s1 q hj hQ hP hR hPm hH g t1 t2 q3 w
          · rw [if_neg q3, el, hbb]
            exact near_even_fin hm hp0 hp1 hu s0 s1 q hj hQ hP hR hPm hH g t1 t2 q3 hk (by omega) w
      · have b := rF (by rintro ⟨_, x | ⟨x, _⟩⟩ <;> omega)
        have t1 : ((R : Int) == (H : Int)) = false := by simp; omega
        have r : rN m s = Q := by
          unfold rN
          rw [b, hQ]
          exact Nat.add_zero Q
        rw [r]
        by_cases q3 : 104 < p + (s : Int)
        · rw [if_pos q3]
          exact near_lt_inf hm hp0 hp1 hu s0 s1 q hj hQ hP hR hPm hH g t1 q3 w
        · rw [if_neg q3, el, hbb]
          exact near_lt_fin hm hp0 hp1 hu s0 s1 q hj hQ hP hR hPm hH g t1 q3 hk (by omega) w

end Go.Proofs.YtdejfjlcknfbbaaDoor
