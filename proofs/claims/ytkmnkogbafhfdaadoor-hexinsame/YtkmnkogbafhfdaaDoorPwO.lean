/-
  Powers of ten by any quotient; a number times ten, brought to the next one's place; steps of numbers of digits. (Plain mathematics.)
-/
import Derived.Test.YtkmnkogbafhfdaaDoorPwN
namespace Go.Proofs.YtkmnkogbafhfdaaDoor

/-- Whatever fraction times a power of two the power of ten is: its quotient of 128 bits is it. -/
theorem pw_of {e t : Int} {X Y M r : Nat} (q : Eqv (pN e * Y) 0 (X * pD e) t) (hr : r < Y) (h : X = M * Y + r) (h1 : 2 ^ 127 ≤ M) (h2 : M < 2 ^ 128) :
    Pw e M t ∧ (vE (pN e) (pD e) 0 M t ↔ r = 0) := by
  have y0 : 0 < Y := by omega
  have at' : ∀ m : Nat, vL X Y t m t ↔ X < Y * m := fun m => by
    refine ⟨fun c => ?_, fun c => ⟨t, Int.le_refl _, Int.le_refl _, ?_⟩⟩
    · have k := c.at t (Int.le_refl _) (Int.le_refl _)
      rw [ev_self, ev_self] at k
      exact k
    · rw [ev_self, ev_self]
      exact c
  have ae : vE X Y t M t ↔ X = Y * M := by
    refine ⟨fun c => ?_, fun c => ⟨t, Int.le_refl _, Int.le_refl _, ?_⟩⟩
    · have k := c.at t (Int.le_refl _) (Int.le_refl _)
      rw [ev_self, ev_self] at k
      exact k
    · rw [ev_self, ev_self]
      exact c
  refine ⟨⟨h1, h2, ?_, ?_⟩, ?_⟩
  · rw [vL_iff (pD_pos e) y0 q, at', h, Nat.mul_comm Y M]; omega
  · rw [vL_iff (pD_pos e) y0 q, at', h, Nat.mul_add, Nat.mul_one, Nat.mul_comm Y M]; omega
  · rw [vE_iff (pD_pos e) y0 q, ae, h, Nat.mul_comm Y M]; omega
/-- Of ten to the e, e not below 0: cut off, or moved up. -/
theorem pw_up {k M r d : Nat} (hr : r < 2 ^ d) (h : 10 ^ k = M * 2 ^ d + r) (h1 : 2 ^ 127 ≤ M) (h2 : M < 2 ^ 128) : Pw (k : Int) M (d : Int) ∧ (vE (pN (k : Int)) (pD (k : Int)) 0 M (d : Int) ↔ r = 0) := by
  refine pw_of (X := 10 ^ k) (Y := 2 ^ d) ?_ hr h h1 h2
  unfold pN pD
  rw [Int.toNat_natCast, show (-(k : Int)).toNat = 0 from by omega, Nat.pow_zero, Nat.mul_one]
  have s := Eqv.shl (10 ^ k) (d : Int) d
  rw [Int.sub_self] at s
  exact s.symm
theorem pw_in {k M d : Nat} (h : 10 ^ k * 2 ^ d = M) (h1 : 2 ^ 127 ≤ M) (h2 : M < 2 ^ 128) : Pw (k : Int) M (-(d : Int)) ∧ vE (pN (k : Int)) (pD (k : Int)) 0 M (-(d : Int)) := by
  have q : Eqv (pN (k : Int) * 1) 0 (M * pD (k : Int)) (-(d : Int)) := by
    unfold pN pD
    rw [Int.toNat_natCast, show (-(k : Int)).toNat = 0 from by omega, Nat.pow_zero, Nat.mul_one, Nat.mul_one, ← h]
    have s := Eqv.shl (10 ^ k) 0 d
    rw [Int.zero_sub] at s
    exact s
  obtain ⟨a, b⟩ := pw_of (r := 0) q (by omega) (by omega) h1 h2
  exact ⟨a, b.2 rfl⟩
/-- Of ten to the minus k: two to the d by it. -/
theorem pw_below {k M r d : Nat} (hr : r < 10 ^ k) (h : 2 ^ d = M * 10 ^ k + r) (h1 : 2 ^ 127 ≤ M) (h2 : M < 2 ^ 128) : Pw (-(k : Int)) M (-(d : Int)) ∧ (vE (pN (-(k : Int))) (pD (-(k : Int))) 0 M (-(d : Int)) ↔ r = 0) := by
  refine pw_of (X := 2 ^ d) (Y := 10 ^ k) ?_ hr h h1 h2
  unfold pN pD
  rw [show (-(k : Int)).toNat = 0 from by omega, show (- -(k : Int)).toNat = k from by omega, Nat.pow_zero, Nat.one_mul]
  have s := Eqv.shl (10 ^ k) 0 d
  rw [Int.zero_sub, Nat.mul_comm] at s
  exact s
/-- A product of 128 bits and a word, brought down by 3 or 4 places: its two words. -/
theorem step_parts {P top low t : Nat} (h : P = top * 2 ^ 128 + low) (hl : low < 2 ^ 128) (ht : t = 3 ∨ t = 4) (hp : P < 2 ^ 128 * 2 ^ t) :
    top < 2 ^ t ∧ P / 2 ^ t = (low / 2 ^ t / 2 ^ 64 + top * 2 ^ (64 - t)) * 2 ^ 64 + low / 2 ^ t % 2 ^ 64 ∧ low / 2 ^ t / 2 ^ 64 < 2 ^ (64 - t) := by
  rcases ht with rfl | rfl
  · simp only [Nat.reducePow, Nat.reduceSub] at *
    omega
  · simp only [Nat.reducePow, Nat.reduceSub] at *
    omega
theorem or_sum {a b t : Nat} (h : a < 2 ^ t) : a ||| b * 2 ^ t = a + b * 2 ^ t := by
  rw [Nat.or_comm, Nat.mul_comm b, ← Nat.two_pow_add_eq_or_of_lt h b]
  omega
/-- A row of digits times a small number: what is carried. -/
theorem carry_step {v c a s p x β : Nat} (h : v + c * p = a * s) : v + (x * s + c) % β * p + (x * s + c) / β * (p * β) = (a + x * p) * s := by
  have q := Nat.div_add_mod (x * s + c) β
  have e1 : (x * s + c) % β * p + (x * s + c) / β * (p * β) = (x * s + c) * p := by
    rw [show (x * s + c) / β * (p * β) = β * ((x * s + c) / β) * p from by rw [Nat.mul_comm p β, ← Nat.mul_assoc, Nat.mul_comm _ β], ← Nat.add_mul, Nat.add_comm, q]
  rw [Nat.add_assoc, e1, Nat.add_mul, Nat.add_mul, Nat.mul_right_comm x s p, ← h]
  omega
/-- A division, bit by bit: what is left so far, and the quotient's bits so far. -/
theorem bit_div {A D r i : Nat} (hD : 0 < D) (h : r = A / 2 ^ (i + 1) % D) : (if D ≤ 2 * r + A / 2 ^ i % 2 then 2 * r + A / 2 ^ i % 2 - D else 2 * r + A / 2 ^ i % 2) = A / 2 ^ i % D ∧
    A / 2 ^ i / D = 2 * (A / 2 ^ (i + 1) / D) + (if D ≤ 2 * r + A / 2 ^ i % 2 then 1 else 0) := by
  have e : A / 2 ^ (i + 1) = A / 2 ^ i / 2 := by rw [Nat.pow_succ, Nat.div_div_eq_div_mul]
  rw [e] at h ⊢
  generalize A / 2 ^ i = y at *
  have q := Nat.div_add_mod (y / 2) D
  rw [← h] at q
  have rl : r < D := by rw [h]; exact Nat.mod_lt _ hD
  have y2 : y = 2 * (D * (y / 2 / D) + r) + y % 2 := by omega
  generalize y / 2 / D = k at *
  split
  · rename_i c
    have e1 : y = D * (2 * k + 1) + (2 * r + y % 2 - D) := by
      rw [Nat.mul_add, Nat.mul_one, Nat.mul_left_comm]
      omega
    have lt : 2 * r + y % 2 - D < D := by omega
    generalize 2 * r + y % 2 - D = z at *
    constructor
    · rw [e1, Nat.mul_add_mod, Nat.mod_eq_of_lt lt]
    · rw [e1, Nat.mul_add_div hD, Nat.div_eq_of_lt lt]
  · rename_i c
    have e1 : y = D * (2 * k) + (2 * r + y % 2) := by
      rw [Nat.mul_left_comm]
      omega
    have lt : 2 * r + y % 2 < D := by omega
    generalize 2 * r + y % 2 = z at *
    constructor
    · rw [e1, Nat.mul_add_mod, Nat.mod_eq_of_lt lt]
    · rw [e1, Nat.mul_add_div hD, Nat.div_eq_of_lt lt]
/-- How many decimal digits a number has. -/
def Dl (X l : Nat) : Prop := X < 10 ^ l ∧ (0 < l → 10 ^ (l - 1) ≤ X)
theorem Dl.zero : Dl 0 0 := ⟨by decide, fun h => absurd h (by omega)⟩
theorem Dl.uniq {X a b : Nat} (h : Dl X a) (h' : Dl X b) : a = b := by
  have key : ∀ {a b : Nat}, Dl X a → Dl X b → a ≤ b := by
    intro a b ha hb
    apply Nat.le_of_not_lt
    intro c
    have q := ha.2 (by omega)
    have z := Nat.pow_le_pow_right (n := 10) (by omega) (show b ≤ a - 1 by omega)
    have := hb.1
    omega
  exact Nat.le_antisymm (key h h') (key h' h)
/-- Digits of the high part, and k behind it. -/
theorem Dl.app {X k t : Nat} (h : Dl (X / 10 ^ k) t) (t0 : 0 < t) : Dl X (t + k) := by
  have p : 0 < 10 ^ k := Nat.pow_pos (by omega)
  refine ⟨?_, fun _ => ?_⟩
  · rw [Nat.pow_add]
    exact (Nat.div_lt_iff_lt_mul p).1 h.1
  · have q := h.2 t0
    rw [Nat.le_div_iff_mul_le p, ← Nat.pow_add] at q
    rw [show t + k - 1 = t - 1 + k from by omega]
    exact q
theorem Dl.ten {X t : Nat} (h : Dl (X / 10) t) (x0 : X ≠ 0) : Dl X (t + 1) := by
  rcases Nat.eq_zero_or_pos t with c | c
  · subst c
    have a := h.1
    rw [Nat.pow_zero] at a
    exact ⟨by rw [Nat.zero_add, Nat.pow_one]; omega, fun _ => by show 10 ^ 0 ≤ X; rw [Nat.pow_zero]; omega⟩
  · have q := Dl.app (X := X) (k := 1) (t := t) (by rw [Nat.pow_one]; exact h) c
    exact q
end Go.Proofs.YtkmnkogbafhfdaaDoor
