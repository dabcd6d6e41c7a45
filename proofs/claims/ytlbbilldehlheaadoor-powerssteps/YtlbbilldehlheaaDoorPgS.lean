/-
  What PowersSteps reckons: ten times a power, brought to the place of the next one. (Plain mathematics.)
-/
import Derived.Test.YtlbbilldehlheaaDoorPgM
import Derived.Test.YtlbbilldehlheaaDoorPgL
namespace Go.Proofs.YtlbbilldehlheaaDoor

theorem mul_ten (M : Nat) : m3Top (hiW M) (loW M) 10 = ((M * 10 / 340282366920938463463374607431768211456 : Nat) : Int) ∧ m3Mid (hiW M) (loW M) 10 = hiW (M * 10 % 340282366920938463463374607431768211456) ∧ mLo (loW M) 10 = loW (M * 10 % 340282366920938463463374607431768211456) := by
  have W : 340282366920938463463374607431768211456 = 18446744073709551616 * 18446744073709551616 := rfl
  have a : M * 10 / 18446744073709551616 = M / 18446744073709551616 * 10 + M % 18446744073709551616 * 10 / 18446744073709551616 := by omega
  have b : M * 10 / 340282366920938463463374607431768211456 = M * 10 / 18446744073709551616 / 18446744073709551616 := by rw [W, Nat.div_div_eq_div_mul]
  have c : M * 10 % 340282366920938463463374607431768211456 / 18446744073709551616 = M * 10 / 18446744073709551616 % 18446744073709551616 := by rw [W, Nat.mod_mul_right_div_self]
  have d : M * 10 % 340282366920938463463374607431768211456 % 18446744073709551616 = M * 10 % 18446744073709551616 := by rw [W, Nat.mod_mul_right_mod]
  unfold m3Top m3Mid mHi mLo a3C a3Lo hiW loW
  rw [b, c, d, a]
  have e : M * 10 % 18446744073709551616 = M % 18446744073709551616 * 10 % 18446744073709551616 := by omega
  rw [e]
  clear a b c d e W
  generalize M / 18446744073709551616 = h
  generalize M % 18446744073709551616 = l
  obtain ⟨q, hq⟩ : ∃ q, q = l * 10 / 18446744073709551616 := ⟨_, rfl⟩
  have hi : (l : Int) * 10 / 18446744073709551616 = (q : Int) := by omega
  rw [hi, ← hq]
  clear hi hq
  refine ⟨?_, ?_, ?_⟩
  · omega
  · omega
  · omega
theorem sub_two {x y : Nat} (h : y ≤ x) (h2 : x ≤ y + 2) : dHi (hiW x) (loW x) (hiW y) (loW y) = 0 ∧ dLo (loW x) (loW y) = ((x - y : Nat) : Int) ∧ dUn (hiW x) (loW x) (hiW y) (loW y) = false := by
  unfold dHi dLo dUn s3Lo s3B hiW loW
  refine ⟨?_, ?_, ?_⟩
  · split <;> omega
  · omega
  · rw [bne_eq_false_iff_eq]
    split <;> split <;> omega
/-- The facts of one step. -/
structure StF (t : Nat) (M Q : Nat) (E E' : Int) : Prop where
  exp : E' = E + t
  top : M * 10 / 340282366920938463463374607431768211456 < 2 ^ t
  word : bits .or .u64 (hiW (M * 10 % 340282366920938463463374607431768211456 / 2 ^ t)) (((M * 10 / 340282366920938463463374607431768211456 : Nat) : Int) * ((2 ^ (64 - t) : Nat) : Int)) = hiW (M * 10 / 2 ^ t)
  room : M * 10 / 340282366920938463463374607431768211456 * 2 ^ (64 - t) < 18446744073709551616
  low : loW (M * 10 % 340282366920938463463374607431768211456 / 2 ^ t) = loW (M * 10 / 2 ^ t)
  le : M * 10 / 2 ^ t ≤ Q
  ge : Q ≤ M * 10 / 2 ^ t + 2
theorem st_of {x : Int} {M M' : Nat} {E E' : Int} (p : Pw x M E) (q : Pw (x + 1) M' E') : StF 3 M M' E E' ∨ StF 4 M M' E E' := by
  obtain ⟨t, tt, he, hp, h1, h2⟩ := p.step q
  have key : StF t M M' E E' := by
    have hP : M * 10 = M * 10 / 340282366920938463463374607431768211456 * 2 ^ 128 + M * 10 % 340282366920938463463374607431768211456 := by
      have d := Nat.div_add_mod (M * 10) 340282366920938463463374607431768211456
      rw [show 2 ^ 128 = 340282366920938463463374607431768211456 from rfl]
      omega
    obtain ⟨a, b, c⟩ := step_parts hP (Nat.mod_lt _ (by decide)) tt hp
    have room : M * 10 / 340282366920938463463374607431768211456 * 2 ^ (64 - t) < 18446744073709551616 := by
      generalize M * 10 / 340282366920938463463374607431768211456 = u at *
      rcases tt with rfl | rfl
      · simp only [Nat.reducePow, Nat.reduceSub] at *
        omega
      · simp only [Nat.reducePow, Nat.reduceSub] at *
        omega
    have hc : M * 10 % 340282366920938463463374607431768211456 / 2 ^ t / 18446744073709551616 < 2 ^ (64 - t) := c
    have hw : M * 10 % 340282366920938463463374607431768211456 / 2 ^ t / 18446744073709551616 < 18446744073709551616 := Nat.lt_of_lt_of_le hc (by rcases tt with rfl | rfl <;> decide)
    have e1 : M * 10 / 2 ^ t / 18446744073709551616 = M * 10 % 340282366920938463463374607431768211456 / 2 ^ t / 18446744073709551616 + M * 10 / 340282366920938463463374607431768211456 * 2 ^ (64 - t) := by
      have b' : M * 10 / 2 ^ t = (M * 10 % 340282366920938463463374607431768211456 / 2 ^ t / 18446744073709551616 + M * 10 / 340282366920938463463374607431768211456 * 2 ^ (64 - t)) * 18446744073709551616 + M * 10 % 340282366920938463463374607431768211456 / 2 ^ t % 18446744073709551616 := b
      have m := Nat.mod_lt (M * 10 % 340282366920938463463374607431768211456 / 2 ^ t) (show 0 < 18446744073709551616 by decide)
      generalize M * 10 / 2 ^ t = z at *
      generalize M * 10 % 340282366920938463463374607431768211456 / 2 ^ t % 18446744073709551616 = y at *
      generalize M * 10 % 340282366920938463463374607431768211456 / 2 ^ t / 18446744073709551616 + M * 10 / 340282366920938463463374607431768211456 * 2 ^ (64 - t) = v at *
      omega
    have e2 : M * 10 / 2 ^ t % 18446744073709551616 = M * 10 % 340282366920938463463374607431768211456 / 2 ^ t % 18446744073709551616 := by
      have b' : M * 10 / 2 ^ t = (M * 10 % 340282366920938463463374607431768211456 / 2 ^ t / 18446744073709551616 + M * 10 / 340282366920938463463374607431768211456 * 2 ^ (64 - t)) * 18446744073709551616 + M * 10 % 340282366920938463463374607431768211456 / 2 ^ t % 18446744073709551616 := b
      have m := Nat.mod_lt (M * 10 % 340282366920938463463374607431768211456 / 2 ^ t) (show 0 < 18446744073709551616 by decide)
      generalize M * 10 / 2 ^ t = z at *
      generalize M * 10 % 340282366920938463463374607431768211456 / 2 ^ t % 18446744073709551616 = y at *
      generalize M * 10 % 340282366920938463463374607431768211456 / 2 ^ t / 18446744073709551616 + M * 10 / 340282366920938463463374607431768211456 * 2 ^ (64 - t) = v at *
      omega
    refine ⟨he, a, ?_, room, ?_, h1, h2⟩
    · unfold hiW
      rw [← Int.natCast_mul, bits_or_u64_nat _ _ hw room, or_sum hc, e1]
    · unfold loW
      rw [e2]
  rcases tt with rfl | rfl
  · exact Or.inl key
  · exact Or.inr key
theorem top_bit {M : Nat} (h1 : 2 ^ 127 ≤ M) (h2 : M < 2 ^ 128) : hiW M / 9223372036854775808 = 1 := by
  simp only [Nat.reducePow] at h1 h2
  unfold hiW
  omega
theorem bits_exp {x : Int} {M : Nat} {E : Int} (p : Pw x M E) (h1 : -1100 ≤ x) (h2 : x ≤ 1100) : x * 14267572527 / 4294967296 + 1 = E + 128 := by
  have u := p.bits.uniq (fst_log x h1 h2)
  omega
end Go.Proofs.YtlbbilldehlheaaDoor
