/-
  Powers of two and of ten: lengths of quotients, how many decimal and binary digits there are ahead of the point. (Plain mathematics.)
-/
import Derived.Test.YtkmnkogbafhfdaaDoorPwM
namespace Go.Proofs.YtkmnkogbafhfdaaDoor

/-- A quotient brought to 128 bits by the lengths of both numbers has 128 or 129. -/
theorem pw_len {X Y : Nat} (x0 : X ≠ 0) (y0 : Y ≠ 0) {s : Int} (hs : s = 128 - ((ln X : Int) - (ln Y : Int))) : 2 ^ 127 * (Y * 2 ^ (-s).toNat) ≤ X * 2 ^ s.toNat ∧ X * 2 ^ s.toNat < 2 ^ 129 * (Y * 2 ^ (-s).toNat) := by
  have px := ln_pos x0
  have py := ln_pos y0
  have lx := ln_le x0
  have ly := ln_le y0
  have ux := ln_lt X
  have uy := ln_lt Y
  constructor
  · refine Nat.le_trans (Nat.mul_le_mul_left _ (Nat.mul_le_mul_right _ (Nat.le_of_lt uy))) ?_
    refine Nat.le_trans ?_ (Nat.mul_le_mul_right _ lx)
    rw [← Nat.pow_add, ← Nat.pow_add, ← Nat.pow_add]
    exact Nat.pow_le_pow_right (by omega) (by omega)
  · refine Nat.lt_of_lt_of_le (Nat.mul_lt_mul_of_pos_right ux (Nat.two_pow_pos _)) ?_
    refine Nat.le_trans ?_ (Nat.mul_le_mul_left _ (Nat.mul_le_mul_right _ ly))
    rw [← Nat.pow_add, ← Nat.pow_add, ← Nat.pow_add]
    exact Nat.pow_le_pow_right (by omega) (by omega)
/-- One place further down both bounds are halved. -/
theorem pw_down {X Y : Nat} {s : Int} (h1 : 2 ^ 128 * (Y * 2 ^ (-s).toNat) ≤ X * 2 ^ s.toNat) (h2 : X * 2 ^ s.toNat < 2 ^ 129 * (Y * 2 ^ (-s).toNat)) :
    2 ^ 127 * (Y * 2 ^ (-(s - 1)).toNat) ≤ X * 2 ^ (s - 1).toNat ∧ X * 2 ^ (s - 1).toNat < 2 ^ 128 * (Y * 2 ^ (-(s - 1)).toNat) := by
  by_cases c : 1 ≤ s
  · have e1 : X * 2 ^ s.toNat = X * 2 ^ (s - 1).toNat * 2 := by rw [show s.toNat = (s - 1).toNat + 1 from by omega, Nat.pow_succ, Nat.mul_assoc]
    have e2 : Y * 2 ^ (-s).toNat = Y := by rw [show (-s).toNat = 0 from by omega, Nat.pow_zero, Nat.mul_one]
    have e3 : Y * 2 ^ (-(s - 1)).toNat = Y := by rw [show (-(s - 1)).toNat = 0 from by omega, Nat.pow_zero, Nat.mul_one]
    rw [e1, e2] at h1 h2
    rw [e3]
    generalize X * 2 ^ (s - 1).toNat = z at *
    omega
  · have e1 : Y * 2 ^ (-(s - 1)).toNat = Y * 2 ^ (-s).toNat * 2 := by rw [show (-(s - 1)).toNat = (-s).toNat + 1 from by omega, Nat.pow_succ, Nat.mul_assoc]
    have e2 : X * 2 ^ s.toNat = X := by rw [show s.toNat = 0 from by omega, Nat.pow_zero, Nat.mul_one]
    have e3 : X * 2 ^ (s - 1).toNat = X := by rw [show (s - 1).toNat = 0 from by omega, Nat.pow_zero, Nat.mul_one]
    rw [e2] at h1 h2
    rw [e1, e3]
    generalize Y * 2 ^ (-s).toNat = z at *
    omega
/-- Two to the n below ten to the d. -/
def tlt (n d : Int) : Prop := 2 ^ n.toNat * 10 ^ (-d).toNat < 10 ^ d.toNat * 2 ^ (-n).toNat
theorem tlt.succ {n d : Int} (h : tlt n d) : tlt n (d + 1) := by
  unfold tlt at *
  by_cases c : 0 ≤ d
  · rw [show (-(d + 1)).toNat = (-d).toNat from by omega, show (d + 1).toNat = d.toNat + 1 from by omega, Nat.pow_succ, Nat.mul_right_comm]
    omega
  · rw [show (-d).toNat = (-(d + 1)).toNat + 1 from by omega, show d.toNat = (d + 1).toNat from by omega, Nat.pow_succ, ← Nat.mul_assoc] at h
    omega
theorem tlt.mono {n d d' : Int} (h : tlt n d) (c : d ≤ d') : tlt n d' := by
  obtain ⟨k, rfl⟩ : ∃ k : Nat, d' = d + k := ⟨(d' - d).toNat, by omega⟩
  clear c
  induction k with
  | zero => simpa using h
  | succ k i =>
    have := i.succ
    rw [show d + ((k + 1 : Nat) : Int) = d + (k : Int) + 1 from by push_cast; omega]
    exact this
/-- How many decimal digits two to the n has ahead of its point. -/
def Td (n d : Int) : Prop := ¬ tlt n (d - 1) ∧ tlt n d
theorem Td.uniq {n d d' : Int} (h : Td n d) (h' : Td n d') : d = d' := by
  have key : ∀ {a b : Int}, Td n a → Td n b → a ≤ b := by
    intro a b ha hb
    refine Int.not_lt.1 (fun c => ha.1 (hb.2.mono (by omega)))
  have := key h h'
  have := key h' h
  omega
theorem td_pos {n : Nat} {l : Nat} (l0 : 0 < l) (h1 : 10 ^ (l - 1) ≤ 2 ^ n) (h2 : 2 ^ n < 10 ^ l) : Td (n : Int) (l : Int) := by
  unfold Td tlt
  rw [Int.toNat_natCast, Int.toNat_natCast, show (-(n : Int)).toNat = 0 from by omega, show (-(l : Int)).toNat = 0 from by omega, show ((l : Int) - 1).toNat = l - 1 from by omega, show (-((l : Int) - 1)).toNat = 0 from by omega, Nat.pow_zero]
  simp only [Nat.mul_one]
  omega
theorem tlt_neg {k : Nat} {l : Nat} : tlt (-(k : Int)) ((l : Int) - (k : Int)) ↔ 5 ^ k < 10 ^ l := by
  unfold tlt
  rw [show (-(k : Int)).toNat = 0 from by omega, show (- -(k : Int)).toNat = k from by omega, Nat.pow_zero, Nat.one_mul]
  have p2 := Nat.two_pow_pos k
  have e10 := ten_five k
  rcases Nat.le_total k l with c | c
  · rw [show (-((l : Int) - (k : Int))).toNat = 0 from by omega, show ((l : Int) - (k : Int)).toNat = l - k from by omega, Nat.pow_zero]
    have el : 10 ^ l = 10 ^ (l - k) * 10 ^ k := by rw [← Nat.pow_add]; congr 1; omega
    have p5 : 0 < 5 ^ k := Nat.pow_pos (by omega)
    have pl : 0 < 10 ^ (l - k) := Nat.pow_pos (by omega)
    rw [el, e10, ← Nat.mul_assoc]
    constructor
    · intro h
      have q := Nat.mul_lt_mul_of_pos_right h p5
      omega
    · intro h
      apply Nat.lt_of_not_le
      intro z
      have q := Nat.mul_le_mul_right (5 ^ k) z
      omega
  · rw [show (-((l : Int) - (k : Int))).toNat = k - l from by omega, show ((l : Int) - (k : Int)).toNat = 0 from by omega, Nat.pow_zero, Nat.one_mul]
    have ek : 10 ^ k = 10 ^ (k - l) * 10 ^ l := by rw [← Nat.pow_add]; congr 1; omega
    have pl : 0 < 10 ^ l := Nat.pow_pos (by omega)
    rw [ek] at e10
    constructor
    · intro h
      have q := Nat.mul_lt_mul_of_pos_right h pl
      rw [e10] at q
      exact Nat.lt_of_mul_lt_mul_left q
    · intro h
      have q := Nat.mul_lt_mul_of_pos_left h p2
      rw [← e10] at q
      exact Nat.lt_of_mul_lt_mul_right q
theorem td_neg {k l : Nat} (l0 : 0 < l) (h1 : 10 ^ (l - 1) ≤ 5 ^ k) (h2 : 5 ^ k < 10 ^ l) : Td (-(k : Int)) ((l : Int) - (k : Int)) := by
  refine ⟨fun c => ?_, tlt_neg.2 h2⟩
  rw [show (l : Int) - (k : Int) - 1 = ((l - 1 : Nat) : Int) - (k : Int) from by omega] at c
  have := tlt_neg.1 c
  omega
/-- The first binary digit's place of a power of ten, above and below 1. -/
theorem fst_ten {k b : Nat} (h1 : 2 ^ b ≤ 10 ^ k) (h2 : 10 ^ k < 2 ^ (b + 1)) : Fst (pN (k : Int)) (pD (k : Int)) (b : Int) := by
  unfold pN pD
  rw [Int.toNat_natCast, show (-(k : Int)).toNat = 0 from by omega, Nat.pow_zero]
  constructor
  · intro c
    have q := c.at 0 (Int.le_refl _) (by omega)
    unfold ev at q
    rw [show (0 - (0 : Int)).toNat = 0 from rfl, show ((b : Int) - 0).toNat = b from by omega, Nat.pow_zero, Nat.mul_one, Nat.one_mul, Nat.one_mul] at q
    omega
  · refine ⟨0, Int.le_refl _, by omega, ?_⟩
    unfold ev
    rw [show (0 - (0 : Int)).toNat = 0 from rfl, show ((b : Int) + 1 - 0).toNat = b + 1 from by omega, Nat.pow_zero, Nat.mul_one, Nat.one_mul, Nat.one_mul]
    exact h2
theorem fst_tenth {k b : Nat} (h1 : 2 ^ b < 10 ^ k) (h2 : 10 ^ k < 2 ^ (b + 1)) : Fst (pN (-(k : Int))) (pD (-(k : Int))) (-(b : Int) - 1) := by
  unfold pN pD
  rw [show (-(k : Int)).toNat = 0 from by omega, show (- -(k : Int)).toNat = k from by omega, Nat.pow_zero]
  constructor
  · intro c
    have q := c.at (-(b : Int) - 1) (by omega) (Int.le_refl _)
    unfold ev at q
    rw [Int.sub_self, show (0 : Int).toNat = 0 from rfl, show (0 - (-(b : Int) - 1)).toNat = b + 1 from by omega, Nat.pow_zero, Nat.mul_one, Nat.one_mul] at q
    omega
  · refine ⟨-(b : Int), by omega, by omega, ?_⟩
    unfold ev
    rw [show (0 - -(b : Int)).toNat = b from by omega, show (-(b : Int) - 1 + 1 - -(b : Int)).toNat = 0 from by omega, Nat.pow_zero, Nat.mul_one, Nat.one_mul]
    exact h1
theorem ten_not_two {k b : Nat} (k0 : 0 < k) : 2 ^ b ≠ 10 ^ k := by
  intro h
  have o := two_five b
  rw [h, show k = k - 1 + 1 from by omega, Nat.pow_succ] at o
  omega
end Go.Proofs.YtkmnkogbafhfdaaDoor
