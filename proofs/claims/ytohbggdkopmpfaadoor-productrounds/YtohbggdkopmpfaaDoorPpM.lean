/-
  A number of three words: its words, a product's, a sum's, its first word and what is behind it. No program in sight.
-/
import Derived.Test.YtohbggdkopmpfaaDoorPrP
import Derived.Test.YtohbggdkopmpfaaDoorPgM
namespace Go.Proofs.YtohbggdkopmpfaaDoor

/-- The three words of a number. -/
def x2 (X : Nat) : Int := ((X / 340282366920938463463374607431768211456 : Nat) : Int)
def x1 (X : Nat) : Int := ((X / 18446744073709551616 % 18446744073709551616 : Nat) : Int)
def x0 (X : Nat) : Int := ((X % 18446744073709551616 : Nat) : Int)
theorem x1_word (X : Nat) : Word (x1 X) := by unfold Word x1; omega
theorem x0_word (X : Nat) : Word (x0 X) := by unfold Word x0; omega
theorem x2_word {X : Nat} (h : X < 2 ^ 192) : Word (x2 X) := by
  unfold Word x2
  rw [show 2 ^ 192 = 18446744073709551616 * 340282366920938463463374607431768211456 from rfl] at h
  have := Nat.div_lt_of_lt_mul (Nat.mul_comm _ _ ▸ h)
  omega
theorem x_inj {X Y : Nat} (h2 : x2 X = x2 Y) (h1 : x1 X = x1 Y) (h0 : x0 X = x0 Y) : X = Y := by
  unfold x2 x1 x0 at *
  have a : X / 340282366920938463463374607431768211456 = X / 18446744073709551616 / 18446744073709551616 := by rw [Nat.div_div_eq_div_mul]
  have b : Y / 340282366920938463463374607431768211456 = Y / 18446744073709551616 / 18446744073709551616 := by rw [Nat.div_div_eq_div_mul]
  rw [a, b] at h2
  omega
theorem mul_words (M b : Nat) : m3Top (hiW M) (loW M) (b : Int) = x2 (M * b) ∧ m3Mid (hiW M) (loW M) (b : Int) = x1 (M * b) ∧ mLo (loW M) (b : Int) = x0 (M * b) := by
  unfold m3Top m3Mid mHi mLo a3C a3Lo hiW loW x2 x1 x0
  have e0 : M * b = M / 18446744073709551616 * b * 18446744073709551616 + M % 18446744073709551616 * b := by
    rw [Nat.mul_right_comm, ← Nat.add_mul, Nat.div_add_mod']
  have e1 : ((M / 18446744073709551616 : Nat) : Int) * (b : Int) = ((M / 18446744073709551616 * b : Nat) : Int) := (Int.natCast_mul _ _).symm
  have e2 : ((M % 18446744073709551616 : Nat) : Int) * (b : Int) = ((M % 18446744073709551616 * b : Nat) : Int) := (Int.natCast_mul _ _).symm
  rw [e1, e2, e0, show (340282366920938463463374607431768211456 : Nat) = 18446744073709551616 * 18446744073709551616 from rfl, ← Nat.div_div_eq_div_mul]
  generalize M / 18446744073709551616 * b = p
  generalize M % 18446744073709551616 * b = q
  refine ⟨?_, ?_, ?_⟩ <;> omega
theorem sum_words {X A : Nat} (hA : A < 2 ^ 128) (h : X + A < 2 ^ 192) : sHi (x1 X) (x0 X) (hiW A) (loW A) = x1 (X + A) ∧ sLo (x0 X) (loW A) = x0 (X + A) ∧
    (sOv (x1 X) (x0 X) (hiW A) (loW A) = false → x2 X = x2 (X + A)) ∧ (sOv (x1 X) (x0 X) (hiW A) (loW A) = true → x2 X + 1 = x2 (X + A) ∧ x2 X + 1 < 18446744073709551616) := by
  rw [show 2 ^ 128 = 340282366920938463463374607431768211456 from rfl] at hA
  rw [show 2 ^ 192 = 6277101735386680763835789423207666416102355444464034512896 from rfl] at h
  unfold sHi sLo sOv a3C a3Lo hiW loW x2 x1 x0
  rw [show (340282366920938463463374607431768211456 : Nat) = 18446744073709551616 * 18446744073709551616 from rfl, ← Nat.div_div_eq_div_mul, ← Nat.div_div_eq_div_mul]
  obtain ⟨c, hc⟩ : ∃ c, c = X % 18446744073709551616 := ⟨_, rfl⟩
  obtain ⟨U, hU⟩ : ∃ U, U = X / 18446744073709551616 := ⟨_, rfl⟩
  obtain ⟨d, hd⟩ : ∃ d, d = A % 18446744073709551616 := ⟨_, rfl⟩
  obtain ⟨D, hD⟩ : ∃ D, D = A / 18446744073709551616 := ⟨_, rfl⟩
  have e1 : (X + A) % 18446744073709551616 = (c + d) % 18446744073709551616 := by omega
  have e2 : (X + A) / 18446744073709551616 = U + D + (c + d) / 18446744073709551616 := by omega
  have e3 : U + D + (c + d) / 18446744073709551616 < 340282366920938463463374607431768211456 := by omega
  have l1 : c < 18446744073709551616 := by omega
  have l2 : d < 18446744073709551616 := by omega
  have l3 : D < 18446744073709551616 := by omega
  rw [e1, e2, ← hc, ← hU, ← hd, ← hD]
  clear e1 e2 hc hU hd hD h hA
  refine ⟨by omega, by omega, ?_, ?_⟩
  · intro z
    rw [bne_eq_false_iff_eq] at z
    omega
  · intro z
    rw [bne_iff_ne] at z
    omega
theorem bl_ln (X : Nat) : bl X = ln X := by
  by_cases h : X = 0
  · subst h
    decide +kernel
  · have a := bl_lt X
    have b := bl_le h
    have c := bl_pos h
    exact (ln_of b (by rw [show bl X - 1 + 1 = bl X from by omega]; exact a)).symm ▸ (by omega)
/-- The first word, how many bits are behind it, what they are. -/
theorem head_math {X : Nat} (h1 : 2 ^ 127 ≤ X) (h2 : X < 2 ^ 192) : ∃ U b h r : Nat, U = X / 18446744073709551616 ∧ U ≠ 0 ∧ U < 2 ^ 128 ∧ b = bl U ∧ b ≤ 128 ∧ 64 ≤ b ∧ U * 2 ^ (128 - b) < 2 ^ 128 ∧ h = U * 2 ^ (128 - b) / 18446744073709551616 ∧
    2 ^ 63 ≤ h ∧ h < 2 ^ 64 ∧ X = h * 2 ^ b + r ∧ r < 2 ^ b ∧ (r = 0 ↔ (U * 2 ^ (128 - b) % 18446744073709551616 = 0 ∧ X % 18446744073709551616 = 0)) := by
  obtain ⟨U, hU⟩ : ∃ U, U = X / 18446744073709551616 := ⟨_, rfl⟩
  have B : (18446744073709551616 : Nat) = 2 ^ 64 := rfl
  have u1 : 2 ^ 63 ≤ U := by
    rw [hU, B, Nat.le_div_iff_mul_le (Nat.two_pow_pos _), ← Nat.pow_add]
    exact h1
  have u2 : U < 2 ^ 128 := by
    rw [hU, B, Nat.div_lt_iff_lt_mul (Nat.two_pow_pos _), ← Nat.pow_add]
    exact h2
  have u0 : U ≠ 0 := by have := Nat.two_pow_pos 63; omega
  obtain ⟨b, hb⟩ : ∃ b, b = bl U := ⟨_, rfl⟩
  have b1 : U < 2 ^ b := hb ▸ bl_lt U
  have b2 : 2 ^ (b - 1) ≤ U := hb ▸ bl_le u0
  have b3 : b ≤ 128 := by
    apply Nat.le_of_not_lt
    intro c
    have : 2 ^ 128 ≤ 2 ^ (b - 1) := Nat.pow_le_pow_right (by decide) (by omega)
    omega
  have b4 : 64 ≤ b := by
    apply Nat.le_of_not_lt
    intro c
    have : 2 ^ b ≤ 2 ^ 63 := Nat.pow_le_pow_right (by decide) (by omega)
    omega
  obtain ⟨j, hj⟩ : ∃ j, b = 64 + j := ⟨b - 64, by omega⟩
  obtain ⟨i, hi⟩ : ∃ i, 64 = i + j := ⟨64 - j, by omega⟩
  have ei : 128 - b = i := by omega
  have c0 : U * 2 ^ i < 2 ^ 128 := by
    have := Nat.mul_lt_mul_of_pos_right b1 (Nat.two_pow_pos i)
    rw [← Nat.pow_add, show b + i = 128 from by omega] at this
    exact this
  have c1 : U * 2 ^ i / 18446744073709551616 = U / 2 ^ j := by
    rw [B, show (2 : Nat) ^ 64 = 2 ^ i * 2 ^ j from by rw [← Nat.pow_add, ← hi], Nat.mul_comm U, Nat.mul_div_mul_left _ _ (Nat.two_pow_pos i)]
  have c2 : U * 2 ^ i % 18446744073709551616 = 2 ^ i * (U % 2 ^ j) := by
    rw [B, show (2 : Nat) ^ 64 = 2 ^ i * 2 ^ j from by rw [← Nat.pow_add, ← hi], Nat.mul_comm U, Nat.mul_mod_mul_left]
  have c3 : X / 2 ^ b = U / 2 ^ j := by rw [hj, Nat.pow_add, ← Nat.div_div_eq_div_mul, ← B, ← hU]
  have c4 : X % 2 ^ b = X % 18446744073709551616 + 18446744073709551616 * (U % 2 ^ j) := by rw [hj, Nat.pow_add, Nat.mod_mul, ← B, ← hU]
  refine ⟨U, b, U / 2 ^ j, X % 2 ^ b, hU, u0, u2, hb, b3, b4, by rw [ei]; exact c0, by rw [ei]; exact c1.symm, ?_, ?_, by rw [← c3, Nat.div_add_mod'], Nat.mod_lt _ (Nat.two_pow_pos b), ?_⟩
  · rw [Nat.le_div_iff_mul_le (Nat.two_pow_pos j), ← Nat.pow_add, show 63 + j = b - 1 from by omega]
    exact b2
  · rw [Nat.div_lt_iff_lt_mul (Nat.two_pow_pos j), ← Nat.pow_add, ← hj]
    exact b1
  · rw [ei, c2, c4, Nat.mul_eq_zero]
    have := Nat.two_pow_pos i
    omega
end Go.Proofs.YtohbggdkopmpfaaDoor
