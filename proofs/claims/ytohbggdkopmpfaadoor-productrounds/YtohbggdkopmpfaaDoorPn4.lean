/-
  Numbers of many words and of two words: what the program's calls answer; digits of 32 bits.
-/
import Derived.Test.YtohbggdkopmpfaaDoorPn3
namespace Go.Proofs.YtohbggdkopmpfaaDoor
open Go.RowKit

/-- How many noughts stand ahead. -/
def ldz (h l : Int) : Int := if h = 0 then 128 - blen l else 64 - blen h
set_option maxHeartbeats 400000 in
theorem wlead_any (h l : Int) (h1 : Word h) (h2 : Word l) (w : World) :
    Calls Tryd.prog 38 #[.agg #[.int .u64 h, .int .u64 l]] w fun e w' => e = .returned (.int .i64 (ldz h l)) ∧ Below w.heap.size w w' := by
  have b1 := blen_01 l h2.1 h2.2
  by_cases c : h = 0
  · have c' : (h == 0) = true := by simpa using c
    have hL : ldz h l = 64 + (64 - blen l) := by unfold ldz; rw [if_pos c]; omega
    clear c
    go_enter Tryd.func38, Tryd.ntmps38
    go_wp2_with (go_at_call 62; refine (lead64_any l h2 _).mono ?_; rintro e w' ⟨rfl, rfl⟩)
    go_ret
    exact ⟨by rw [hL]; rfl, (Below.refl _ _).alloc (Nat.le_refl _) _⟩
  · have c' : (h == 0) = false := by simpa using c
    have hL : ldz h l = 64 - blen h := by unfold ldz; rw [if_neg c]
    go_enter Tryd.func38, Tryd.ntmps38
    go_wp2_with (go_at_call 62; refine (lead64_any h h1 _).mono ?_; rintro e w' ⟨rfl, rfl⟩)
    go_ret
    exact ⟨by rw [hL]; rfl, (Below.refl _ _).alloc (Nat.le_refl _) _⟩
theorem ret_n {x x' y y' : Int} (hx : x = x') (hy : y = y') : Ending.returned (.agg #[.int .u64 x, .int .u64 y]) = .returned (.agg #[.int .u64 x', .int .u64 y']) := by rw [hx, hy]
set_option maxHeartbeats 1000000 in
theorem wleft_any (h l n : Int) (h1 : Word h) (h2 : Word l) (w : World) :
    Calls Tryd.prog 39 #[.agg #[.int .u64 h, .int .u64 l], .int .i64 n] w fun e w' => e = .returned (.agg #[.int .u64 (hiW (shl (val h l) n)), .int .u64 (loW (shl (val h l) n))]) ∧ Below w.heap.size w w' := by
  have l0 := h1.1
  have l1 := h2.1
  rcases (by omega : n ≤ 0 ∨ 128 ≤ n ∨ (64 ≤ n ∧ n < 128) ∨ (0 < n ∧ n < 64)) with c | c | ⟨c, d⟩ | ⟨c, d⟩
  · go_enter Tryd.func39, Tryd.ntmps39
    go_wp2
    have hv := val_lt h1 h2
    have e : shl (val h l) n = val h l := by unfold shl; rw [show n.toNat = 0 by omega, Nat.pow_zero, Nat.mul_one, Nat.mod_eq_of_lt hv]
    refine bodyPost_ret (v := .agg #[.int .u64 h, .int .u64 l]) (by simp [results, Tryd.results39, go_sem]) rfl ⟨ret_n (by rw [e, hiW_val h1 h2]) (by rw [e, loW_val h1 h2]), ((Below.refl _ _).alloc (Nat.le_refl _) _).alloc (by simp) _⟩
  · go_enter Tryd.func39, Tryd.ntmps39
    go_wp2
    have e : shl (val h l) n = 0 := shl_none _ _ (by omega)
    refine bodyPost_ret (v := .agg #[.int .u64 0, .int .u64 0]) (by simp [results, Tryd.results39, go_sem]) rfl ⟨ret_n (by rw [e, hiW_zero]) (by rw [e, loW_zero]), ((Below.refl _ _).alloc (Nat.le_refl _) _).alloc (by simp) _⟩
  · go_enter Tryd.func39, Tryd.ntmps39
    go_wp2
    obtain ⟨e1, e2⟩ := shl_words64 h1 h2 n.toNat (by omega)
    rw [show n.toNat - 64 = (n - 64).toNat by omega] at e1
    refine bodyPost_ret (v := .agg #[.int .u64 (IntKind.u64.wrap (l * 2 ^ (n - 64).toNat)), .int .u64 0]) (by simp [results, Tryd.results39, go_sem]) rfl ⟨ret_n e1 e2, ((Below.refl _ _).alloc (Nat.le_refl _) _).alloc (by simp) _⟩
  · go_enter Tryd.func39, Tryd.ntmps39
    go_wp2
    go_region
    all_goals
      go_wp2
      obtain ⟨e1, e2⟩ := shl_words h1 h2 n.toNat (by omega)
      rw [show 64 - n.toNat = (64 - n).toNat by omega] at e1
      refine bodyPost_ret (v := .agg #[.int .u64 (bits BinOp.or IntKind.u64 (IntKind.u64.wrap (h * 2 ^ n.toNat)) (l / 2 ^ (64 - n).toNat)), .int .u64 (IntKind.u64.wrap (l * 2 ^ n.toNat))]) (by simp [results, Tryd.results39, go_sem]) rfl ⟨ret_n e1 e2, (((Below.refl _ _).alloc (Nat.le_refl _) _).alloc (by simp) _).drew⟩
/-- A number that is not 0 is a power of two times an odd number, in one way. -/
theorem two_odd {a b m n : Nat} (h : 2 ^ a * (2 * m + 1) = 2 ^ b * (2 * n + 1)) : a = b := by
  rcases Nat.lt_trichotomy a b with c | c | c
  · exfalso
    obtain ⟨d, rfl⟩ : ∃ d, b = a + 1 + d := ⟨b - a - 1, by omega⟩
    rw [Nat.pow_add, Nat.pow_succ, Nat.mul_assoc, Nat.mul_assoc] at h
    have h2 := Nat.eq_of_mul_eq_mul_left (Nat.pow_pos (by omega)) h
    omega
  · exact c
  · exfalso
    obtain ⟨d, rfl⟩ : ∃ d, a = b + 1 + d := ⟨a - b - 1, by omega⟩
    rw [Nat.pow_add, Nat.pow_succ, Nat.mul_assoc, Nat.mul_assoc] at h
    have h2 := Nat.eq_of_mul_eq_mul_left (Nat.pow_pos (by omega)) h
    omega
theorem ctz_of {n v k m : Nat} (hv : v < 2 ^ n) (h : v = 2 ^ k * (2 * m + 1)) : Lib.ctz n v = k := by
  have h0 : v ≠ 0 := by
    rw [h]; exact Nat.ne_of_gt (Nat.mul_pos (Nat.pow_pos (by omega)) (by omega))
  obtain ⟨m', e, _⟩ := Lib.ctzFrom_spec n v (by omega) hv
  unfold Lib.ctz
  rw [if_neg h0]
  exact two_odd (e.symm.trans h)
/-- How many noughts stand behind, of all 128 places. -/
def trl (v : Nat) : Int := (Lib.ctz 128 v : Int)
theorem trl_of {v k m : Nat} (hv : v < 340282366920938463463374607431768211456) (h : v = 2 ^ k * (2 * m + 1)) : trl v = k := by
  unfold trl; rw [ctz_of (n := 128) hv h]
theorem ctzW_bounds {x : Int} (h : Word x) (h0 : x ≠ 0) : ∃ k m : Nat, k < 64 ∧ x.toNat = 2 ^ k * (2 * m + 1) ∧ ctzW x = k := by
  have a := h.1; have b := h.2
  obtain ⟨m, e, hk⟩ := Lib.ctzFrom_spec 64 x.toNat (by omega) (by omega)
  exact ⟨_, m, hk, e, by unfold ctzW Lib.ctz; rw [if_neg (by omega)]⟩
theorem ctzW_01 {x : Int} (h : Word x) : 0 ≤ ctzW x ∧ ctzW x ≤ 64 := by
  by_cases c : x = 0
  · subst c; decide
  · obtain ⟨k, m, a, b, e⟩ := ctzW_bounds h c
    omega
theorem trl_low {h l : Int} (h1 : Word h) (h2 : Word l) (h0 : l ≠ 0) : trl (val h l) = ctzW l := by
  obtain ⟨k, m, a, b, e⟩ := ctzW_bounds h2 h0
  rw [e]
  obtain ⟨d, rfl⟩ : ∃ d, 63 - k = d := ⟨_, rfl⟩
  refine trl_of (m := m + h.toNat * 2 ^ (63 - k)) (val_lt h1 h2) ?_
  have p : 2 ^ k * (2 * (h.toNat * 2 ^ (63 - k))) = h.toNat * 18446744073709551616 := by
    rw [show (18446744073709551616 : Nat) = 2 ^ k * (2 * 2 ^ (63 - k)) by
      rw [Nat.mul_left_comm, ← Nat.pow_add, show k + (63 - k) = 63 by omega]]
    generalize 2 ^ (63 - k) = r
    generalize 2 ^ k = q
    rw [Nat.mul_left_comm 2, Nat.mul_left_comm q]
  have q : 2 ^ k * (2 * (m + h.toNat * 2 ^ (63 - k)) + 1) = h.toNat * 18446744073709551616 + 2 ^ k * (2 * m + 1) := by
    rw [Nat.mul_add 2, Nat.add_right_comm, Nat.mul_add (2 ^ k), p, Nat.add_comm]
  rw [q, ← b]
  have x := h1.1; have y := h2.1
  unfold val
  omega
theorem trl_high {h : Int} (h1 : Word h) : trl (val h 0) = 64 + ctzW h := by
  by_cases c : h = 0
  · subst c; decide
  · obtain ⟨k, m, a, b, e⟩ := ctzW_bounds h1 c
    rw [e]
    have z := trl_of (v := val h 0) (k := 64 + k) (m := m) (val_lt h1 ⟨by omega, by omega⟩) (by
      rw [Nat.pow_add, Nat.mul_assoc, ← b]
      have x := h1.1
      unfold val; omega)
    rw [z]; omega
/-- A shift down cuts something just where a 1 stands low enough. -/
theorem cut_trl {v : Nat} (hv : v < 340282366920938463463374607431768211456) (h0 : v ≠ 0) (n : Int) (hn : 0 < n) : decide (trl v < n) = cutB v n := by
  obtain ⟨m, e, hk⟩ := Lib.ctzFrom_spec 128 v (by omega) hv
  generalize Lib.ctzFrom 128 v = k at *
  rw [trl_of hv e]
  unfold cutB
  rw [Bool.eq_iff_iff, decide_eq_true_iff, decide_eq_true_iff]
  obtain ⟨N, rfl⟩ := Int.eq_ofNat_of_zero_le (Int.le_of_lt hn)
  rw [Int.toNat_natCast]
  constructor
  · intro c z
    obtain ⟨d, rfl⟩ : ∃ d, N = k + 1 + d := ⟨N - k - 1, by omega⟩
    obtain ⟨q, hq⟩ := Nat.dvd_of_mod_eq_zero z
    rw [hq, Nat.pow_add, Nat.pow_succ, Nat.mul_assoc, Nat.mul_assoc] at e
    have := Nat.eq_of_mul_eq_mul_left (Nat.pow_pos (by omega)) e
    omega
  · intro c
    by_cases d : (k : Int) < (N : Int)
    · exact d
    · exfalso
      apply c
      obtain ⟨d, rfl⟩ : ∃ d, k = N + d := ⟨k - N, by omega⟩
      rw [e, Nat.pow_add, Nat.mul_assoc]
      exact Nat.mul_mod_right _ _
theorem ret_i64' {a b : Int} (h : a = b) : Ending.returned (.int .i64 a) = .returned (.int .i64 b) := by rw [h]
end Go.Proofs.YtohbggdkopmpfaaDoor
