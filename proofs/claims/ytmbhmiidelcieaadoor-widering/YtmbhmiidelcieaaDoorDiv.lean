/-
  What a call of math/bits.Div64 answers, for all words hi, lo, y with hi below y: the quotient of hi * 2^64 + lo by y, and what is left.
-/
import Derived.Test.YtmbhmiidelcieaaDoorLen
import Derived.Test.YtmbhmiidelcieaaDoorMath3
namespace Go.Proofs.YtmbhmiidelcieaaDoor
open Go.RowKit

theorem mask_u64 {a : Int} (h : Word a) : bits .and .u64 a 4294967295 = a % 4294967296 := by
  obtain ⟨x, rfl⟩ := Int.eq_ofNat_of_zero_le h.1
  have h2 := h.2
  have e := bits_and_u64_nat x 4294967295 (by omega) (by omega)
  have f : x &&& 4294967295 = x % 4294967296 := Nat.and_two_pow_sub_one_eq_mod x 32
  rw [f] at e
  exact e.trans (by omega)

/-- The divisor and the number, shifted so that the divisor's highest bit is 1. -/
theorem norm_setup {hi lo y : Int} {n : Nat} (h1 : Word hi) (h2 : Word lo) (hlt : hi < y) (hn : n ≤ 63) (b3 : (2 : Int) ^ n ≤ y) (b4 : y < 2 ^ (n + 1)) :
    ∃ U L Y : Int, IntKind.u64.wrap (y * 2 ^ (63 - n)) = Y ∧ bits .or .u64 (IntKind.u64.wrap (hi * 2 ^ (63 - n))) (lo / 2 ^ (64 - (63 - n))) = U ∧ IntKind.u64.wrap (lo * 2 ^ (63 - n)) = L ∧
      Y = y * 2 ^ (63 - n) ∧ 9223372036854775808 ≤ Y ∧ Y < 18446744073709551616 ∧ 0 ≤ U ∧ U < Y ∧ 0 ≤ L ∧ L < 18446744073709551616 ∧ (hi * 18446744073709551616 + lo) * 2 ^ (63 - n) = U * 18446744073709551616 + L := by
  obtain ⟨a, rfl⟩ := Int.eq_ofNat_of_zero_le h1.1
  obtain ⟨b, rfl⟩ := Int.eq_ofNat_of_zero_le h2.1
  obtain ⟨c, rfl⟩ := Int.eq_ofNat_of_zero_le (by omega : 0 ≤ y)
  have hb2 := h2.2
  have g3 : 2 ^ n ≤ c := by exact_mod_cast b3
  have g4 : c < 2 ^ (n + 1) := by exact_mod_cast b4
  have p1 : 2 ^ n * 2 ^ (63 - n) = 9223372036854775808 := by rw [← Nat.pow_add, show n + (63 - n) = 63 by omega]
  have p2 : 2 ^ (n + 1) * 2 ^ (63 - n) = 18446744073709551616 := by rw [← Nat.pow_add, show n + 1 + (63 - n) = 64 by omega]
  have s0 : 0 < 2 ^ (63 - n) := Nat.pow_pos (by omega)
  have t1 : 64 - (63 - n) = n + 1 := by omega
  have i1 : 2 ^ n * 2 ^ (63 - n) ≤ c * 2 ^ (63 - n) := Nat.mul_le_mul_right _ g3
  have i2 : c * 2 ^ (63 - n) < 2 ^ (n + 1) * 2 ^ (63 - n) := Nat.mul_lt_mul_of_pos_right g4 s0
  have i3 : (a + 1) * 2 ^ (63 - n) ≤ c * 2 ^ (63 - n) := Nat.mul_le_mul_right _ (by omega)
  rw [Nat.add_mul, Nat.one_mul] at i3
  have i4 : b * 2 ^ (63 - n) / 18446744073709551616 = b / 2 ^ (n + 1) := by rw [← p2, Nat.mul_div_mul_right _ _ s0]
  have i5 : b / 2 ^ (n + 1) < 2 ^ (63 - n) := by
    rw [Nat.div_lt_iff_lt_mul (Nat.pow_pos (by omega)), Nat.mul_comm, p2]; omega
  have c1 : ((2 : Int) ^ (63 - n)) = ((2 ^ (63 - n) : Nat) : Int) := by push_cast; rfl
  have c2 : ((2 : Int) ^ (n + 1)) = ((2 ^ (n + 1) : Nat) : Int) := by push_cast; rfl
  have w1 : IntKind.u64.wrap ((c : Int) * 2 ^ (63 - n)) = ((c * 2 ^ (63 - n) : Nat) : Int) := by rw [c1, ← Int.natCast_mul, IntKind.wrap_u64]; omega
  have w2 : IntKind.u64.wrap ((a : Int) * 2 ^ (63 - n)) = ((a * 2 ^ (63 - n) : Nat) : Int) := by rw [c1, ← Int.natCast_mul, IntKind.wrap_u64]; omega
  have w3 : IntKind.u64.wrap ((b : Int) * 2 ^ (63 - n)) = ((b * 2 ^ (63 - n) % 18446744073709551616 : Nat) : Int) := by rw [c1, ← Int.natCast_mul, IntKind.wrap_u64]; omega
  have w4 : bits .or .u64 (IntKind.u64.wrap ((a : Int) * 2 ^ (63 - n))) ((b : Int) / 2 ^ (64 - (63 - n))) = ((a * 2 ^ (63 - n) + b / 2 ^ (n + 1) : Nat) : Int) := by
    have o := bits_or_u64_nat (a * 2 ^ (63 - n)) (b / 2 ^ (n + 1)) (by omega) (by omega)
    rw [w2, t1, c2, ← Int.natCast_ediv, o, Nat.mul_comm a, ← Nat.two_pow_add_eq_or_of_lt i5]
  refine ⟨_, _, _, w1, w4, w3, ?_, by omega, by omega, by omega, ?_, by omega, by omega, ?_⟩
  · rw [c1, ← Int.natCast_mul]
  · omega
  · rw [c1, Int.add_mul, Int.mul_right_comm, ← Int.natCast_mul, ← Int.natCast_mul]
    generalize a * 2 ^ (63 - n) = A at *
    generalize b * 2 ^ (63 - n) = E at *
    omega

end Go.Proofs.YtmbhmiidelcieaaDoor
