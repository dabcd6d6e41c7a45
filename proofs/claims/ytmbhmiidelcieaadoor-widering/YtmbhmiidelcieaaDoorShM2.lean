/-
  Plain arithmetic of numbers of two words: how many noughts stand at both ends; what a shift down cuts: no walk in this text.
-/
import Derived.Test.YtmbhmiidelcieaaDoorShM
import Derived.Test.YtmbhmiidelcieaaDoorMath2
import Derived.Test.YtmbhmiidelcieaaDoorSure
namespace Go.Proofs.YtmbhmiidelcieaaDoor
open Go.RowKit

/-- A number that is not 0 is a power of two times an odd number, in one way. -/
theorem two_odd {a b m n : Nat} (h : 2 ^ a * (2 * m + 1) = 2 ^ b * (2 * n + 1)) : a = b := by
  rcases Nat.lt_trichotomy a b with c | c | c
  · exfalso
    obtain ⟨d, rfl⟩ : ∃ d, b = a + 1 + d := ⟨b - a - 1, by omega⟩
    rw [Nat.pow_add, Nat.pow_succ, Nat.mul_assoc, Nat.mul_assoc] at h
    have h2 := Nat.eq_of_mul_eq_mul_left (Nat.pow_pos (by omega)) h
    omega
  · exact c
  · exfalso
    obtain ⟨d, rfl⟩ : ∃ d, a = b + 1 + d := ⟨a - b - 1, by omega⟩
    rw [Nat.pow_add, Nat.pow_succ, Nat.mul_assoc, Nat.mul_assoc] at h
    have h2 := Nat.eq_of_mul_eq_mul_left (Nat.pow_pos (by omega)) h
    omega

theorem ctz_of {n v k m : Nat} (hv : v < 2 ^ n) (h : v = 2 ^ k * (2 * m + 1)) : Lib.ctz n v = k := by
  have h0 : v ≠ 0 := by
    rw [h]; exact Nat.ne_of_gt (Nat.mul_pos (Nat.pow_pos (by omega)) (by omega))
  obtain ⟨m', e, _⟩ := Lib.ctzFrom_spec n v (by omega) hv
  unfold Lib.ctz
  rw [if_neg h0]
  exact two_odd (e.symm.trans h)

/-- How many noughts stand behind, of all 128 places. -/
def trl (v : Nat) : Int := (Lib.ctz 128 v : Int)
def ctzW (x : Int) : Int := (Lib.ctz 64 x.toNat : Int)

theorem trl_zero : trl 0 = 128 := by decide
theorem trl_of {v k m : Nat} (hv : v < 340282366920938463463374607431768211456) (h : v = 2 ^ k * (2 * m + 1)) : trl v = k := by
  unfold trl; rw [ctz_of (n := 128) hv h]

theorem ctzW_bounds {x : Int} (h : Word x) (h0 : x ≠ 0) : ∃ k m : Nat, k < 64 ∧ x.toNat = 2 ^ k * (2 * m + 1) ∧ ctzW x = k := by
  have a := h.1; have b := h.2
  obtain ⟨m, e, hk⟩ := Lib.ctzFrom_spec 64 x.toNat (by omega) (by omega)
  exact ⟨_, m, hk, e, by unfold ctzW Lib.ctz; rw [if_neg (by omega)]⟩

theorem ctzW_01 {x : Int} (h : Word x) : 0 ≤ ctzW x ∧ ctzW x ≤ 64 := by
  by_cases c : x = 0
  · subst c; decide
  · obtain ⟨k, m, a, b, e⟩ := ctzW_bounds h c
    omega

theorem trl_low {h l : Int} (h1 : Word h) (h2 : Word l) (h0 : l ≠ 0) : trl (val h l) = ctzW l := by
  obtain ⟨k, m, a, b, e⟩ := ctzW_bounds h2 h0
  rw [e]
  obtain ⟨d, rfl⟩ : ∃ d, 63 - k = d := ⟨_, rfl⟩
  refine trl_of (m := m + h.toNat * 2 ^ (63 - k)) (val_lt h1 h2) ?_
  have p : 2 ^ k * (2 * (h.toNat * 2 ^ (63 - k))) = h.toNat * 18446744073709551616 := by
    rw [show (18446744073709551616 : Nat) = 2 ^ k * (2 * 2 ^ (63 - k)) by
      rw [Nat.mul_left_comm, ← Nat.pow_add, show k + (63 - k) = 63 by omega]]
    generalize 2 ^ (63 - k) = r
    generalize 2 ^ k = q
    rw [Nat.mul_left_comm 2, Nat.mul_left_comm q]
  have q : 2 ^ k * (2 * (m + h.toNat * 2 ^ (63 - k)) + 1) = h.toNat * 18446744073709551616 + 2 ^ k * (2 * m + 1) := by
    rw [Nat.mul_add 2, Nat.add_right_comm, Nat.mul_add (2 ^ k), p, Nat.add_comm]
  rw [q, ← b]
  have x := h1.1; have y := h2.1
  unfold val
  omega

theorem trl_high {h : Int} (h1 : Word h) : trl (val h 0) = 64 + ctzW h := by
  by_cases c : h = 0
  · subst c; decide
  · obtain ⟨k, m, a, b, e⟩ := ctzW_bounds h1 c
    rw [e]
    have z := trl_of (v := val h 0) (k := 64 + k) (m := m) (val_lt h1 ⟨by omega, by omega⟩) (by
      rw [Nat.pow_add, Nat.mul_assoc, ← b]
      have x := h1.1
      unfold val; omega)
    rw [z]; omega

/-- A shift down cuts something just where a 1 stands low enough. -/
theorem cut_trl {v : Nat} (hv : v < 340282366920938463463374607431768211456) (h0 : v ≠ 0) (n : Int) (hn : 0 < n) : decide (trl v < n) = cutB v n := by
  obtain ⟨m, e, hk⟩ := Lib.ctzFrom_spec 128 v (by omega) hv
  generalize Lib.ctzFrom 128 v = k at *
  rw [trl_of hv e]
  unfold cutB
  rw [Bool.eq_iff_iff, decide_eq_true_iff, decide_eq_true_iff]
  obtain ⟨N, rfl⟩ := Int.eq_ofNat_of_zero_le (Int.le_of_lt hn)
  rw [Int.toNat_natCast]
  constructor
  · intro c z
    obtain ⟨d, rfl⟩ : ∃ d, N = k + 1 + d := ⟨N - k - 1, by omega⟩
    obtain ⟨q, hq⟩ := Nat.dvd_of_mod_eq_zero z
    rw [hq, Nat.pow_add, Nat.pow_succ, Nat.mul_assoc, Nat.mul_assoc] at e
    have := Nat.eq_of_mul_eq_mul_left (Nat.pow_pos (by omega)) e
    omega
  · intro c
    by_cases d : (k : Int) < (N : Int)
    · exact d
    · exfalso
      apply c
      obtain ⟨d, rfl⟩ : ∃ d, k = N + d := ⟨k - N, by omega⟩
      rw [e, Nat.pow_add, Nat.mul_assoc]
      exact Nat.mul_mod_right _ _

theorem trl_odd {v k : Nat} (hv : v < 340282366920938463463374607431768211456) (h0 : v % 2 ^ k = 0) (h1 : v / 2 ^ k % 2 = 1) : (k : Int) = trl v := by
  refine (trl_of (m := v / 2 ^ k / 2) hv ?_).symm
  have a := Nat.div_add_mod v (2 ^ k)
  have b : 2 * (v / 2 ^ k / 2) + 1 = v / 2 ^ k := by omega
  rw [b]; omega

theorem zero_of_cut {v k : Nat} (hv : v < 340282366920938463463374607431768211456) (hk : 128 ≤ k) (h0 : v % 2 ^ k = 0) : v = 0 := by
  rw [← (shr_none hv k hk).2]; exact h0

/-- How many noughts stand ahead. -/
theorem ldz_zero : ldz 0 0 = 128 := by decide
theorem ldz_of {h l : Int} (h1 : Word h) (h2 : Word l) {a : Nat} (a1 : 2 ^ a ≤ val h l) (a2 : val h l < 2 ^ (a + 1)) : ldz h l = 127 - (a : Int) := by
  have x := h1.1; have x' := h1.2; have y := h2.1; have y' := h2.2
  unfold ldz
  by_cases c : h = 0
  · subst c
    have e : val 0 l = l.toNat := by unfold val; omega
    rw [e] at a1 a2
    have p0 : 0 < 2 ^ a := Nat.pow_pos (by omega)
    obtain ⟨n, b1, b2, b3, b4⟩ := blen_bounds l (by omega) y'
    rw [if_pos rfl, b1]
    rw [pow_cast] at b3 b4
    have c1 : 2 ^ a < 2 ^ (n + 1) := by omega
    have c2 : 2 ^ n < 2 ^ (a + 1) := by omega
    have d1 := (Nat.pow_lt_pow_iff_right (by omega : 1 < 2)).mp c1
    have d2 := (Nat.pow_lt_pow_iff_right (by omega : 1 < 2)).mp c2
    omega
  · obtain ⟨n, b1, b2, b3, b4⟩ := blen_bounds h (by omega) x'
    rw [if_neg c, b1]
    rw [pow_cast] at b3 b4
    have e : val h l = h.toNat * 18446744073709551616 + l.toNat := by unfold val; omega
    have f1 : 2 ^ (n + 64) ≤ val h l := by rw [Nat.pow_add]; omega
    have f2 : val h l < 2 ^ (n + 1 + 64) := by rw [Nat.pow_add]; omega
    have c1 : 2 ^ a < 2 ^ (n + 1 + 64) := by omega
    have c2 : 2 ^ (n + 64) < 2 ^ (a + 1) := by omega
    have d1 := (Nat.pow_lt_pow_iff_right (by omega : 1 < 2)).mp c1
    have d2 := (Nat.pow_lt_pow_iff_right (by omega : 1 < 2)).mp c2
    omega

theorem log_of {v : Nat} (h0 : v ≠ 0) : ∃ a, 2 ^ a ≤ v ∧ v < 2 ^ (a + 1) := ⟨v.log2, Nat.log2_self_le h0, Nat.lt_log2_self⟩

/-- The highest of 128 bits is 1 behind just so many shifts. -/
theorem ldz_top {h l : Int} (h1 : Word h) (h2 : Word l) {k : Nat} (t1 : 170141183460469231731687303715884105728 ≤ val h l * 2 ^ k) (t2 : val h l * 2 ^ k < 340282366920938463463374607431768211456) : (k : Int) = ldz h l := by
  have h0 : val h l ≠ 0 := by intro z; rw [z, Nat.zero_mul] at t1; omega
  obtain ⟨a, a1, a2⟩ := log_of h0
  rw [ldz_of h1 h2 a1 a2]
  have p0 : 0 < 2 ^ k := Nat.pow_pos (by omega)
  have m1 := Nat.mul_le_mul_right (2 ^ k) a1
  have m2 := Nat.mul_lt_mul_of_pos_right a2 p0
  rw [← Nat.pow_add] at m1 m2
  have c1 : 2 ^ (a + k) < 2 ^ 128 := Nat.lt_of_le_of_lt m1 t2
  have c2 : 2 ^ 127 < 2 ^ (a + 1 + k) := Nat.lt_of_le_of_lt t1 m2
  have d1 := (Nat.pow_lt_pow_iff_right (by omega : 1 < 2)).mp c1
  have d2 := (Nat.pow_lt_pow_iff_right (by omega : 1 < 2)).mp c2
  omega

theorem hi_top (v : Nat) : (hiW v / 9223372036854775808 = 0) ↔ v < 170141183460469231731687303715884105728 := by
  unfold hiW; omega

end Go.Proofs.YtmbhmiidelcieaaDoor
