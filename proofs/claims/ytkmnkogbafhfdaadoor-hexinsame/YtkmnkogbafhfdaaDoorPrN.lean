/-
  A quotient at a place: where the document's Nearest of layer 13 begins and where it ends, and what it answers by a quotient, what is left, and a hair less or more. No program in sight.
-/
import Derived.Test.YtkmnkogbafhfdaaDoorPrM
namespace Go.Proofs.YtkmnkogbafhfdaaDoor

/-- What is divided, and by what, at a place. -/
def qN (n : Nat) (q : Int) : Nat := n * 2 ^ (-q).toNat
def qD (d : Nat) (q : Int) : Nat := d * 2 ^ q.toNat
theorem qD_pos {d : Nat} (d0 : 0 < d) (q : Int) : 0 < qD d q := Nat.mul_pos d0 (Nat.two_pow_pos _)
/-- One place up: half of it. -/
theorem q_step (n d : Nat) (q : Int) : qN n (q + 1) / qD d (q + 1) = qN n q / qD d q / 2 := by
  unfold qN qD
  by_cases c : 0 ≤ q
  · rw [show (-(q + 1)).toNat = 0 from by omega, show (-q).toNat = 0 from by omega, show (q + 1).toNat = q.toNat + 1 from by omega, Nat.pow_succ, Nat.pow_zero, Nat.div_div_eq_div_mul, Nat.mul_assoc]
  · rw [show (q + 1).toNat = 0 from by omega, show q.toNat = 0 from by omega, show (-q).toNat = (-(q + 1)).toNat + 1 from by omega, Nat.pow_succ, Nat.pow_zero, Nat.mul_one, Nat.div_div_eq_div_mul, ← Nat.mul_assoc, Nat.mul_div_mul_right _ _ (by decide)]
theorem q_eqv (n d : Nat) (q : Int) : Eqv (n * qD d q) 0 (qN n q * d) q := by
  unfold qN qD
  by_cases c : 0 ≤ q
  · refine ⟨0, Int.le_refl _, c, ?_⟩
    unfold ev
    rw [show ((0 : Int) - 0).toNat = 0 from rfl, show (q - 0).toNat = q.toNat from by omega, show (-q).toNat = 0 from by omega, Nat.pow_zero, Nat.mul_one, Nat.mul_one, Nat.mul_assoc]
  · refine ⟨q, by omega, Int.le_refl _, ?_⟩
    unfold ev
    rw [show q.toNat = 0 from by omega, show (0 - q).toNat = (-q).toNat from by omega, show (q - q).toNat = 0 from by omega, Nat.pow_zero, Nat.mul_one, Nat.mul_one, Nat.mul_right_comm]
/-- Low enough: not below so many bits; high enough: not above. -/
theorem q_lo {n d f : Nat} {q : Int} (n0 : n ≠ 0) (d0 : d ≠ 0) (h : q ≤ (ln n : Int) - (ln d : Int) - (f + 1)) : 2 ^ f ≤ qN n q / qD d q := by
  rw [Nat.le_div_iff_mul_le (qD_pos (Nat.pos_of_ne_zero d0) q)]
  unfold qN qD
  have a : d ≤ 2 ^ ln d := Nat.le_of_lt (ln_lt d)
  have b := ln_le n0
  have c := ln_pos n0
  have e : 2 ^ (f + ln d + q.toNat) ≤ 2 ^ (ln n - 1 + (-q).toNat) := Nat.pow_le_pow_right (by decide) (by omega)
  rw [Nat.pow_add, Nat.pow_add, Nat.pow_add] at e
  calc 2 ^ f * (d * 2 ^ q.toNat) ≤ 2 ^ f * (2 ^ ln d * 2 ^ q.toNat) := Nat.mul_le_mul_left _ (Nat.mul_le_mul_right _ a)
    _ = 2 ^ f * 2 ^ ln d * 2 ^ q.toNat := (Nat.mul_assoc _ _ _).symm
    _ ≤ 2 ^ (ln n - 1) * 2 ^ (-q).toNat := e
    _ ≤ n * 2 ^ (-q).toNat := Nat.mul_le_mul_right _ b
theorem q_hi {n d f : Nat} {q : Int} (d0 : d ≠ 0) (h : (ln n : Int) - (ln d : Int) - f ≤ q) : qN n q / qD d q < 2 ^ (f + 1) := by
  rw [Nat.div_lt_iff_lt_mul (qD_pos (Nat.pos_of_ne_zero d0) q)]
  unfold qN qD
  have a := ln_le d0
  have b := ln_lt n
  have c := ln_pos d0
  have e : 2 ^ (ln n + (-q).toNat) ≤ 2 ^ (f + 1 + (ln d - 1) + q.toNat) := Nat.pow_le_pow_right (by decide) (by omega)
  rw [Nat.pow_add, Nat.pow_add (2) (f + 1 + (ln d - 1)), Nat.pow_add 2 (f + 1)] at e
  calc n * 2 ^ (-q).toNat < 2 ^ ln n * 2 ^ (-q).toNat := Nat.mul_lt_mul_of_pos_right b (Nat.two_pow_pos _)
    _ ≤ 2 ^ (f + 1) * 2 ^ (ln d - 1) * 2 ^ q.toNat := e
    _ = 2 ^ (f + 1) * (2 ^ (ln d - 1) * 2 ^ q.toNat) := Nat.mul_assoc _ _ _
    _ ≤ 2 ^ (f + 1) * (d * 2 ^ q.toNat) := Nat.mul_le_mul_left _ (Nat.mul_le_mul_right _ a)
/-- Where it begins: the quotient has enough bits there, or it is the lowest place; it ends there or one place up. -/
theorem q_begin {n d f : Nat} {L q : Int} (n0 : n ≠ 0) (d0 : d ≠ 0) (h : q = max ((ln n : Int) - (ln d : Int) - (f + 1)) L) : L ≤ q ∧ (2 ^ f ≤ qN n q / qD d q ∨ q = L) ∧ qN n (q + 1) / qD d (q + 1) < 2 ^ (f + 1) := by
  refine ⟨by omega, ?_, q_hi d0 (by omega)⟩
  by_cases c : q = L
  · exact .inr c
  · exact .inl (q_lo n0 d0 (by omega))
theorem q_next {n d f : Nat} {L q : Int} (hL : L ≤ q) (h : 2 ^ (f + 1) ≤ qN n q / qD d q) : L ≤ q + 1 ∧ 2 ^ f ≤ qN n (q + 1) / qD d (q + 1) := by
  refine ⟨by omega, ?_⟩
  rw [q_step]
  have e : 2 ^ (f + 1) = 2 ^ f * 2 := Nat.pow_succ 2 f
  omega
/-- What it answers: the float that the number is rounded to, with an end. -/
theorem near_ans {f T : Nat} (hf : 0 < f) (hT : 2 ≤ T) {L : Int} {n d : Nat} (d0 : d ≠ 0) {q : Int} (t : Int) (hq : L ≤ q) (h1 : 2 ^ f ≤ qN n q / qD d q ∨ q = L) (h2 : qN n q / qD d q < 2 ^ (f + 1)) :
    ∃ b, RDT f L n d 0 t b ∧ ((rQT t (qN n q / qD d q) (qN n q % qD d q) (qD d q) = 0 ∧ b = 0) ∨ (rQT t (qN n q / qD d q) (qN n q % qD d q) (qD d q) ≠ 0 ∧ pk f (T : Int) L (rQT t (qN n q / qD d q) (qN n q % qD d q) (qD d q)) q = if b < T * 2 ^ f then some b else none)) := by
  have dp := Nat.pos_of_ne_zero d0
  have r := quo_RDT hf (L := L) (e := 0) (l := q) (n := n) (d := d) t dp (Nat.mod_lt (qN n q) (qD_pos dp q)) ⟨h2, hq, h1⟩ (by rw [Nat.div_add_mod']; exact q_eqv n d q)
  generalize hM : rQT t (qN n q / qD d q) (qN n q % qD d q) (qD d q) = M at *
  have up : qN n q / qD d q ≤ M ∧ M ≤ qN n q / qD d q + 1 := by
    rw [← hM]
    unfold rQT
    split <;> omega
  refine ⟨_, r, ?_⟩
  by_cases z : M = 0
  · left
    refine ⟨z, ?_⟩
    have p := Nat.two_pow_pos f
    have e : q = L := h1.resolve_left (by omega)
    unfold ly
    rw [z, e, show (L - L).toNat = 0 from by omega, Nat.zero_mul]
  · right
    refine ⟨z, pk_ly hT z (by omega) hq ?_⟩
    rcases h1 with h | h
    · exact .inl (by omega)
    · exact .inr h
/-- With an end: the answer's bits. -/
def rdE (f T b : Nat) : Nat := if b < T * 2 ^ f then b else T * 2 ^ f
theorem rdE_mono {f T b c : Nat} (h : b ≤ c) : rdE f T b ≤ rdE f T c := by
  unfold rdE
  split <;> split <;> omega
end Go.Proofs.YtkmnkogbafhfdaaDoor
