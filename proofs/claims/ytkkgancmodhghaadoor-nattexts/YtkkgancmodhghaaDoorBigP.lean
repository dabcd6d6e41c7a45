/-
  Words as digits of 32 bits, two a word, and back; no program in sight.
-/
import Derived.Test.YtkkgancmodhghaaDoorNatM
import Derived.Test.YtkkgancmodhghaaDoorBigM
namespace Go.Proofs.YtkkgancmodhghaaDoor

theorem BB : B = Big.B * Big.B := by decide
theorem BB_pow (k : Nat) : B ^ k = Big.B ^ (2 * k) := by rw [BB, Nat.pow_mul, Nat.pow_two]

/-- The digits of a row of words. -/
def halves (f : Nat → Nat) (i : Nat) : Nat := if i % 2 = 0 then f (i / 2) % Big.B else f (i / 2) / Big.B
theorem halves_even (f : Nat → Nat) (k : Nat) : halves f (2 * k) = f k % Big.B := by
  unfold halves; rw [if_pos (by omega), show 2 * k / 2 = k by omega]
theorem halves_odd (f : Nat → Nat) (k : Nat) : halves f (2 * k + 1) = f k / Big.B := by
  unfold halves; rw [if_neg (by omega), show (2 * k + 1) / 2 = k by omega]
theorem half_lt {x : Nat} (h : x < B) : x / Big.B < Big.B := Nat.div_lt_of_lt_mul (by rw [← BB]; exact h)
theorem halves_Ws {f : Nat → Nat} (h : Ws f) : Big.Ws (halves f) := by
  intro i; unfold halves; split
  · exact Nat.mod_lt _ Big.B_pos
  · exact half_lt (h _)
theorem half_gen {v x d p q : Nat} (q1 : d * (x / d) + x % d = x) (hp : q = p) : v + x % d * q + x / d * (q * d) = v + x * p := by
  rw [hp]
  have e : x % d * p + x / d * (p * d) = (d * (x / d) + x % d) * p := by grind
  rw [q1] at e
  omega
theorem halves_V (f : Nat → Nat) : ∀ k, Big.V (halves f) (2 * k) = V f k
  | 0 => rfl
  | k + 1 => by
    rw [show 2 * (k + 1) = 2 * k + 1 + 1 by omega, Big.V_succ, Big.V_succ, halves_V f k, halves_even, halves_odd, V_succ, Nat.pow_succ]
    exact half_gen (Nat.div_add_mod _ _) (BB_pow k).symm

/-- What lies at n and above is 0. -/
def cut (g : Nat → Nat) (n i : Nat) : Nat := if i < n then g i else 0
theorem cut_Ws {g : Nat → Nat} {n : Nat} (h : Big.Ws g) : Big.Ws (cut g n) := by
  intro i; unfold cut; split
  · exact h i
  · exact Big.B_pos
/-- The words of a row of n digits. -/
def pairs (g : Nat → Nat) (n i : Nat) : Nat := cut g n (2 * i) + cut g n (2 * i + 1) * Big.B
theorem pair_lt {x y : Nat} (hx : x < Big.B) (hy : y < Big.B) : x + y * Big.B < B := by
  have h := Nat.mul_le_mul_right Big.B (Nat.succ_le_of_lt hy)
  rw [← BB, Nat.succ_mul] at h
  omega
theorem pairs_Ws {g : Nat → Nat} {n : Nat} (h : Big.Ws g) : Ws (pairs g n) := fun _ => pair_lt (cut_Ws h _) (cut_Ws h _)
theorem pair_gen {v x y d p q : Nat} (hp : q = p) : v + x * q + y * (q * d) = v + (x + y * d) * p := by rw [hp]; grind
theorem pairs_Vc (g : Nat → Nat) (n : Nat) : ∀ m, V (pairs g n) m = Big.V (cut g n) (2 * m)
  | 0 => rfl
  | m + 1 => by
    rw [show 2 * (m + 1) = 2 * m + 1 + 1 by omega, Big.V_succ, Big.V_succ, ← pairs_Vc g n m, V_succ, Nat.pow_succ]
    exact (pair_gen (BB_pow m).symm).symm
theorem pairs_V (g : Nat → Nat) (n : Nat) : V (pairs g n) ((n + 1) / 2) = Big.V g n := by
  rw [pairs_Vc, Big.V_zeros (m := n) (by omega) (fun i a _ => by unfold cut; rw [if_neg (by omega)])]
  exact Big.V_congr fun i hi => by unfold cut; rw [if_pos hi]
theorem pairs_Top {g : Nat → Nat} {n : Nat} (h : Big.Top g n) : Top (pairs g n) ((n + 1) / 2) := by
  rcases h with h | h
  · left; omega
  · by_cases z : n = 0
    · left; omega
    · right
      unfold pairs
      rcases (by omega : (n + 1) / 2 - 1 = (n - 1) / 2) with e
      rw [e]
      by_cases p : (n - 1) % 2 = 0
      · have e2 : 2 * ((n - 1) / 2) = n - 1 := by omega
        have c : cut g n (2 * ((n - 1) / 2)) = g (n - 1) := by rw [e2]; unfold cut; rw [if_pos (by omega)]
        rw [c]; omega
      · have e2 : 2 * ((n - 1) / 2) + 1 = n - 1 := by omega
        have c : cut g n (2 * ((n - 1) / 2) + 1) = g (n - 1) := by rw [e2]; unfold cut; rw [if_pos (by omega)]
        rw [c]
        have : 1 * 1 ≤ g (n - 1) * Big.B := Nat.mul_le_mul (by omega) Big.B_pos
        omega

end Go.Proofs.YtkkgancmodhghaaDoor
