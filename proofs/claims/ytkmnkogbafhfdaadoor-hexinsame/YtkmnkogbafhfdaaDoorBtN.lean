/-
  The float of 32 bits nearest to a number of 53 bits and a power of two: how far it is shifted, how it is rounded, and that what is a float of 32 bits comes back as it is: no program in sight.
-/
import Derived.Test.YtkmnkogbafhfdaaDoorBtM
namespace Go.Proofs.YtkmnkogbafhfdaaDoor

/-- A number's length in bits. -/
def ln (m : Nat) : Nat := if m = 0 then 0 else m.log2 + 1
theorem ln_lt (m : Nat) : m < 2 ^ ln m := by
  unfold ln
  split
  · rename_i h
    rw [h]
    decide
  · exact Nat.lt_log2_self
theorem ln_le {m : Nat} (h : m ≠ 0) : 2 ^ (ln m - 1) ≤ m := by
  unfold ln
  rw [if_neg h]
  exact Nat.log2_self_le h
theorem ln_iff (m k : Nat) : ln m ≤ k ↔ m < 2 ^ k := by
  constructor
  · intro h
    exact Nat.lt_of_lt_of_le (ln_lt m) (Nat.pow_le_pow_right (by decide) h)
  · intro h
    unfold ln
    split
    · exact Nat.zero_le k
    · rename_i z
      have := (Nat.log2_lt z).2 h
      omega
theorem ln_pos {m : Nat} (h : m ≠ 0) : 0 < ln m := by
  unfold ln
  rw [if_neg h]
  omega
theorem ln_of {m k : Nat} (h : 2 ^ k ≤ m) (h' : m < 2 ^ (k + 1)) : ln m = k + 1 := by
  have a := (ln_iff m (k + 1)).2 h'
  have b : ¬ ln m ≤ k := fun x => absurd ((ln_iff m k).1 x) (by omega)
  omega

/-- How many bits fall off at 24 bits and the unit 2^-149. -/
def sN (m : Nat) (e : Int) : Nat := max (ln m - 24) (-149 - e).toNat
/-- Is it rounded away from 0? -/
def rB (m s : Nat) : Bool := decide (0 < s ∧ (2 ^ (s - 1) < m % 2 ^ s ∨ (m % 2 ^ s = 2 ^ (s - 1) ∧ (m / 2 ^ s) % 2 = 1)))
/-- Rounded to the nearest, of two as near the even one. -/
def rN (m s : Nat) : Nat := m / 2 ^ s + (if rB m s then 1 else 0)
/-- The float of 32 bits without its sign, and whether it has the same value. -/
def nw (m : Nat) (e : Int) : Nat × Bool :=
  if rN m (sN m e) = 0 then (0, false)
  else match pk 23 255 (-149) (rN m (sN m e)) (e + (sN m e : Int)) with
    | none => (2139095040, false)
    | some y => (y, decide (m % 2 ^ sN m e = 0))

theorem mod_succ_pow (m j : Nat) : m % 2 ^ (j + 1) = m % 2 ^ j + 2 ^ j * (m / 2 ^ j % 2) := by
  rw [Nat.pow_succ, Nat.mod_mul]
theorem div_succ_pow (m j : Nat) : m / 2 ^ (j + 1) = m / 2 ^ j / 2 := by
  rw [Nat.pow_succ, Nat.div_div_eq_div_mul]
/-- One step of the document's: what falls off, and whether something has fallen off. -/
theorem stk_succ (m j : Nat) : (m % 2 ^ (j + 1) ≠ 0) ↔ (m % 2 ^ j ≠ 0 ∨ m / 2 ^ j % 2 = 1) := by
  rw [mod_succ_pow]
  have p := Nat.two_pow_pos j
  have c : m / 2 ^ j % 2 = 0 ∨ m / 2 ^ j % 2 = 1 := by omega
  rcases c with c | c
  · rw [c]
    simp
  · rw [c]
    constructor
    · intro _
      exact .inr rfl
    · intro _
      omega
/-- The last step: rounded up by its bit, by what fell off ahead and by the number that is left. -/
theorem rB_succ (m j : Nat) : rB m (j + 1) = true ↔ (m / 2 ^ j % 2 = 1 ∧ (m % 2 ^ j ≠ 0 ∨ m / 2 ^ j / 2 % 2 = 1)) := by
  unfold rB
  rw [decide_eq_true_iff, mod_succ_pow, div_succ_pow, Nat.add_sub_cancel]
  have p := Nat.two_pow_pos j
  have q := Nat.mod_lt m p
  have c : m / 2 ^ j % 2 = 0 ∨ m / 2 ^ j % 2 = 1 := by omega
  generalize m / 2 ^ j / 2 % 2 = z
  rcases c with c | c
  · rw [c]
    simp
    omega
  · rw [c]
    simp
    omega
theorem same_succ (m j : Nat) : m % 2 ^ (j + 1) = 0 ↔ (m % 2 ^ j = 0 ∧ m / 2 ^ j % 2 = 0) := by
  have := stk_succ m j
  have c : m / 2 ^ j % 2 = 0 ∨ m / 2 ^ j % 2 = 1 := by omega
  by_cases a : m % 2 ^ (j + 1) = 0 <;> by_cases b : m % 2 ^ j = 0 <;> simp [a, b] at this ⊢ <;> omega
theorem rN_zero (m : Nat) : rN m 0 = m := by
  unfold rN rB
  simp
/-- Where the document's steps end: behind j of them. -/
structure End (m : Nat) (e : Int) (j : Nat) : Prop where
  low : m / 2 ^ j < 2 ^ 25
  unit : m / 2 ^ j = 0 ∨ -150 ≤ e + j
  first : j = 0 ∨ 2 ^ 25 ≤ m / 2 ^ (j - 1) ∨ (m / 2 ^ (j - 1) ≠ 0 ∧ e + ((j - 1 : Nat) : Int) < -150)
theorem div_ln (m j k : Nat) : m / 2 ^ j < 2 ^ k ↔ ln m ≤ j + k := by
  rw [ln_iff, Nat.div_lt_iff_lt_mul (Nat.two_pow_pos j), ← Nat.pow_add, Nat.add_comm]
theorem div_ln_le (m j k : Nat) : 2 ^ k ≤ m / 2 ^ j ↔ j + k < ln m := by
  have := div_ln m j k
  omega
theorem div_zero_iff (m j : Nat) : m / 2 ^ j = 0 ↔ ln m ≤ j := by
  have := div_ln m j 0
  rw [Nat.pow_zero, Nat.add_zero] at this
  generalize m / 2 ^ j = q at this ⊢
  omega
/-- At the end with a number left: one bit more falls off, or none at all. -/
theorem End.half {m j : Nat} {e : Int} (h : End m e j) (c : m / 2 ^ j ≠ 0) (d : e + j = -150 ∨ 2 ^ 24 ≤ m / 2 ^ j) : sN m e = j + 1 := by
  obtain ⟨a, b, f⟩ := h
  rw [div_ln] at a
  rw [div_ln_le] at d
  rw [div_ln_le] at f
  have b' : -150 ≤ e + j := by
    rcases b with b | b
    · exact absurd b c
    · exact b
  unfold sN
  rcases d with d | d <;> omega
theorem End.none {m j : Nat} {e : Int} (h : End m e j) (c : m / 2 ^ j ≠ 0) (d : ¬ (e + j = -150 ∨ 2 ^ 24 ≤ m / 2 ^ j)) : j = 0 ∧ sN m e = 0 := by
  obtain ⟨a, b, f⟩ := h
  rw [div_ln] at a
  rw [div_ln_le] at d
  rw [div_ln_le] at f
  have b' : -150 ≤ e + j := by
    rcases b with b | b
    · exact absurd b c
    · exact b
  have j0 : j = 0 := by
    rcases f with f | f | ⟨_, f⟩
    · exact f
    · exfalso
      exact d (.inr (by omega))
    · exfalso
      exact d (.inl (by omega))
  subst j0
  refine ⟨rfl, ?_⟩
  unfold sN
  have d1 : ¬ e + ((0 : Nat) : Int) = -150 := fun x => d (.inl x)
  have d2 : ¬ 0 + 24 < ln m := fun x => d (.inr x)
  omega
/-- At the end with nothing left: it is rounded to nought. -/
theorem End.nought {m j : Nat} {e : Int} (h : End m e j) (m0 : m ≠ 0) (c : m / 2 ^ j = 0) : rN m (sN m e) = 0 := by
  obtain ⟨a, b, f⟩ := h
  have cl := (div_zero_iff m j).1 c
  have lp := ln_pos m0
  rw [div_ln_le] at f
  have hs : ln m + 1 ≤ sN m e := by
    rcases f with f | f | ⟨f1, f2⟩
    · omega
    · omega
    · unfold sN
      rw [Ne, div_zero_iff] at f1
      omega
  generalize sN m e = s at hs
  obtain ⟨k, rfl⟩ : ∃ k, s = k + 1 := ⟨s - 1, by omega⟩
  have lt : m < 2 ^ k := (ln_iff m k).1 (by omega)
  have lt2 : m < 2 ^ (k + 1) := by
    rw [Nat.pow_succ]
    omega
  have nb : ¬ rB m (k + 1) = true := by
    rw [rB_succ, Nat.div_eq_of_lt lt]
    simp
  unfold rN
  rw [if_neg nb, Nat.div_eq_of_lt lt2]

/-- A float of 32 bits as one of 64: shifted until its first bit is the hidden one. -/
theorem ln_shl {m : Nat} (h : m ≠ 0) (s : Nat) : ln (m * 2 ^ s) = ln m + s := by
  have lp := ln_pos h
  obtain ⟨k, hk⟩ : ∃ k, ln m = k + 1 := ⟨ln m - 1, by omega⟩
  have a := ln_lt m
  have b := ln_le h
  rw [hk] at a b
  rw [Nat.add_sub_cancel] at b
  have := ln_of (m := m * 2 ^ s) (k := k + s) (by rw [Nat.pow_add]; exact Nat.mul_le_mul_right _ b) (by rw [show k + s + 1 = (k + 1) + s by omega, Nat.pow_add]; exact Nat.mul_lt_mul_of_pos_right a (Nat.two_pow_pos s))
  omega
theorem wide_good {m : Nat} {e : Int} (h : m ≠ 0) (hm : m < 2 ^ 24) (h1 : -149 ≤ e) : Good 52 (-1074) (m * 2 ^ (53 - ln m)) (e - ((53 - ln m : Nat) : Int)) := by
  have l := (ln_iff m 24).2 hm
  have a := ln_shl h (53 - ln m)
  have lp := ln_pos h
  have p := Nat.mul_pos (Nat.pos_of_ne_zero h) (Nat.two_pow_pos (53 - ln m))
  refine ⟨(ln_iff _ 53).1 (by omega), by omega, .inl ?_⟩
  have := ln_le (m := m * 2 ^ (53 - ln m)) (by omega)
  rw [a, show ln m + (53 - ln m) - 1 = 52 by omega] at this
  exact this
theorem wide_some {m : Nat} {e : Int} (h : m ≠ 0) (hm : m < 2 ^ 24) (h1 : -149 ≤ e) (h2 : e ≤ 104) : ∃ w, pk 52 2047 (-1074) m e = some w ∧ mt 52 w = m * 2 ^ (53 - ln m) ∧ xp 52 (-1074) w = e - ((53 - ln m : Nat) : Int) ∧ w < 2047 * 2 ^ 52 ∧ w ≠ 0 := by
  have g := wide_good h hm h1
  have lp := ln_pos h
  have l := (ln_iff m 24).2 hm
  have q := pk_same (f := 52) (t := 2047) (L := -1074) h (Eqv.shl m e (53 - ln m))
  rw [pk_fin (Eqv.pos (Eqv.shl m e (53 - ln m)) h) g.fin] at q
  obtain ⟨g1, g2, g3⟩ := id g
  have c : 2 ^ 52 ≤ m * 2 ^ (53 - ln m) := by
    rcases g3 with g3 | g3
    · exact g3
    · omega
  have o : ∃ w, out 52 2047 (-1074) (m * 2 ^ (53 - ln m)) (e - ((53 - ln m : Nat) : Int)) = some w := by
    unfold out
    rw [if_neg (by omega), if_neg (by omega)]
    exact ⟨_, rfl⟩
  obtain ⟨w, o⟩ := o
  obtain ⟨a, b, d⟩ := out_parts g o
  refine ⟨w, q.trans o, a, b, ?_, ?_⟩
  · omega
  · rintro rfl
    rw [show mt 52 0 = 0 by decide] at a
    omega
/-- Widened and narrowed again it is itself. -/
theorem nw_back {b : Nat} (hb : b ≠ 0) (h : b < 255 * 2 ^ 23) : nw (mt 23 b * 2 ^ (53 - ln (mt 23 b))) (xp 23 (-149) b - ((53 - ln (mt 23 b) : Nat) : Int)) = (b, true) := by
  have g := parts_good 23 (-149) b
  have p := pk_parts (f := 23) (t := 255) (L := -149) hb (by omega)
  have m0 := mt_pos (f := 23) hb
  generalize mt 23 b = m at g p m0 ⊢
  generalize xp 23 (-149) b = e at g p ⊢
  obtain ⟨g1, g2, g3⟩ := g
  have l := (ln_iff m 24).2 g1
  have lp := ln_pos m0
  have l2 : 24 ≤ ln m ∨ e = -149 := by
    rcases g3 with g3 | g3
    · left
      have := fun x => (ln_iff m 23).1 x
      omega
    · exact .inr g3
  have s : sN (m * 2 ^ (53 - ln m)) (e - ((53 - ln m : Nat) : Int)) = 53 - ln m := by
    unfold sN
    rw [ln_shl m0]
    omega
  have nb : ¬ rB (m * 2 ^ (53 - ln m)) (53 - ln m) = true := by
    unfold rB
    rw [decide_eq_true_iff, Nat.mul_mod_left]
    have := Nat.two_pow_pos (53 - ln m - 1)
    omega
  have r : rN (m * 2 ^ (53 - ln m)) (53 - ln m) = m := by
    unfold rN
    rw [if_neg nb, Nat.mul_div_cancel _ (Nat.two_pow_pos _), Nat.add_zero]
  unfold nw
  rw [s, r, if_neg m0, show e - ((53 - ln m : Nat) : Int) + ((53 - ln m : Nat) : Int) = e by omega, p, Nat.mul_mod_left]
  rfl

end Go.Proofs.YtkmnkogbafhfdaaDoor
