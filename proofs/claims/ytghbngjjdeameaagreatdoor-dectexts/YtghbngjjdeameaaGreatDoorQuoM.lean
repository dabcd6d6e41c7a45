/-
  Plain arithmetic of the document's division, bit by bit: one bit more of the number makes the next quotient and what is left. No walk in this text.
-/
import Derived.Test.YtghbngjjdeameaaGreatDoorShM
namespace Go.Proofs.YtghbngjjdeameaaGreatDoor
open Go.RowKit

/-- The highest k bits of a number of 128 bits. -/
def headBits (v k : Nat) : Nat := v / 2 ^ (128 - k)

theorem head_zero {v : Nat} (hv : v < 340282366920938463463374607431768211456) : headBits v 0 = 0 := Nat.div_eq_of_lt hv
theorem head_all (v : Nat) : headBits v 128 = v := by unfold headBits; rw [Nat.sub_self, Nat.pow_zero, Nat.div_one]
theorem head_lt {v k : Nat} (hv : v < 340282366920938463463374607431768211456) (hk : k ≤ 128) : headBits v k < 2 ^ k := by
  unfold headBits
  rw [Nat.div_lt_iff_lt_mul (Nat.pow_pos (by omega)), ← Nat.pow_add, show k + (128 - k) = 128 by omega]
  exact hv

theorem head_step {v k : Nat} (hk : k < 128) : headBits v (k + 1) = 2 * headBits v k + v * 2 ^ k % 340282366920938463463374607431768211456 / 170141183460469231731687303715884105728 := by
  have e1 : v * 2 ^ k % 340282366920938463463374607431768211456 / 170141183460469231731687303715884105728 = v * 2 ^ k / 170141183460469231731687303715884105728 % 2 := by
    rw [show (340282366920938463463374607431768211456 : Nat) = 170141183460469231731687303715884105728 * 2 by rfl, Nat.mod_mul_right_div_self]
  have e2 : v * 2 ^ k / 170141183460469231731687303715884105728 = v / 2 ^ (127 - k) := by
    rw [show (170141183460469231731687303715884105728 : Nat) = 2 ^ (127 - k) * 2 ^ k by rw [← Nat.pow_add, show 127 - k + k = 127 by omega], Nat.mul_div_mul_right _ _ (Nat.pow_pos (by omega))]
  unfold headBits
  rw [e1, e2, show 128 - (k + 1) = 127 - k by omega, show 128 - k = (127 - k) + 1 by omega, Nat.pow_succ, ← Nat.div_div_eq_div_mul]
  omega

theorem top_bit (v : Nat) : hiW v / 9223372036854775808 = ((v / 170141183460469231731687303715884105728 : Nat) : Int) := by
  unfold hiW; omega
theorem top_bit_01 {v : Nat} (hv : v < 340282366920938463463374607431768211456) : v / 170141183460469231731687303715884105728 ≤ 1 := by omega

/-- One bit more: the quotient and what is left. -/
theorem quo_step {p b t : Nat} (hb : 0 < b) (ht : t ≤ 1) :
    (b ≤ 2 * (p % b) + t → (2 * p + t) / b = 2 * (p / b) + 1 ∧ (2 * p + t) % b = 2 * (p % b) + t - b) ∧
    (2 * (p % b) + t < b → (2 * p + t) / b = 2 * (p / b) ∧ (2 * p + t) % b = 2 * (p % b) + t) := by
  have e := Nat.div_add_mod p b
  have r := Nat.mod_lt p hb
  generalize p / b = q at *
  generalize p % b = s at *
  subst e
  constructor
  · intro c
    refine (Nat.div_mod_unique hb).mpr ⟨?_, by omega⟩
    rw [Nat.mul_add b, Nat.mul_left_comm]; omega
  · intro c
    refine (Nat.div_mod_unique hb).mpr ⟨?_, c⟩
    rw [Nat.mul_left_comm]; omega

/-- A bit laid into the lowest place. -/
theorem lo_or {x t : Nat} (ht : t ≤ 1) : bits .or .u64 (loW (2 * x)) (t : Int) = loW (2 * x + t) := by
  have h := bits_or_u64_nat (2 * x % 18446744073709551616) t (by omega) (by omega)
  have e : 2 * x % 18446744073709551616 = 2 ^ 1 * (x % 9223372036854775808) := by omega
  rw [e, ← Nat.two_pow_add_eq_or_of_lt (by omega : t < 2 ^ 1)] at h
  have e2 : loW (2 * x) = ((2 ^ 1 * (x % 9223372036854775808) : Nat) : Int) := by unfold loW; omega
  rw [e2, h]
  unfold loW; omega
theorem hi_or {x t : Nat} (ht : t ≤ 1) : hiW (2 * x) = hiW (2 * x + t) := by unfold hiW; omega
theorem lo_small {x : Nat} (h : x < 18446744073709551616) : loW x = x := by unfold loW; omega
theorem hi_small {x : Nat} (h : x < 18446744073709551616) : hiW x = 0 := by unfold hiW; omega
theorem shl_one {x : Nat} (h : x < 170141183460469231731687303715884105728) : shl x 1 = 2 * x := by
  unfold shl; rw [show (1 : Int).toNat = 1 by rfl]; omega

theorem cmp_word {s b : Nat} (hb : b < 18446744073709551616) : decide (cmp (hiW s) (loW s) 0 (b : Int) ≥ 0) = decide (b ≤ s) := by
  rw [Bool.eq_iff_iff, decide_eq_true_iff, decide_eq_true_iff]
  unfold cmp hiW loW
  split <;> (try split) <;> (try split) <;> (try split) <;> omega
theorem sub_word {s b : Nat} (hs : s < 340282366920938463463374607431768211456) (hb : b < 18446744073709551616) (h : b ≤ s) : dHi (hiW s) (loW s) 0 (b : Int) = hiW (s - b) ∧ dLo (loW s) (b : Int) = loW (s - b) := by
  unfold dHi dLo s3Lo s3B hiW loW
  constructor
  · split <;> omega
  · omega

end Go.Proofs.YtghbngjjdeameaaGreatDoor
