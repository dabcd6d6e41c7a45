/-
  A float's value and its half way place as fractions in least terms; what they, and numbers a hair's breadth beside them, are rounded to. No program in sight.
-/
import Derived.Test.YtkmnkogbafhfdaaDoorRdA
namespace Go.Proofs.YtkmnkogbafhfdaaDoor

/-- n / d is m * 2^e, in least terms, d a power of two. -/
def Frc (n d m : Nat) (e : Int) : Prop := vE n d 0 m e ∧ ∃ k, d = 2 ^ k ∧ (n % 2 = 1 ∨ k = 0)
theorem frc_key {n n' k k' : Nat} (h : n * 2 ^ k' = n' * 2 ^ k) (b : n' % 2 = 1 ∨ k' = 0) (c : k ≤ k') : n = n' ∧ k = k' := by
  obtain ⟨j, rfl⟩ : ∃ j, k' = k + j := ⟨k' - k, by omega⟩
  rw [Nat.pow_add, Nat.mul_comm (2 ^ k), ← Nat.mul_assoc] at h
  have e := Nat.eq_of_mul_eq_mul_right (Nat.two_pow_pos k) h
  cases j with
  | zero => exact ⟨by rw [← e]; simp, rfl⟩
  | succ j =>
    exfalso
    rw [Nat.pow_succ, ← Nat.mul_assoc] at e
    omega
theorem Frc.uniq {n d n' d' m : Nat} {e : Int} (h : Frc n d m e) (h' : Frc n' d' m e) : n = n' ∧ d = d' := by
  obtain ⟨v, k, rfl, a⟩ := h
  obtain ⟨v', k', rfl, a'⟩ := h'
  have q := v.at (min 0 e) (by omega) (by omega)
  have q' := v'.at (min 0 e) (by omega) (by omega)
  have key : n * 2 ^ k' = n' * 2 ^ k := by
    have x : ev (min 0 e) n 0 * 2 ^ k' = ev (min 0 e) n' 0 * 2 ^ k := by rw [q, q', Nat.mul_right_comm, Nat.mul_comm (2 ^ k) (2 ^ k'), Nat.mul_right_comm]
    unfold ev at x
    rw [Nat.mul_right_comm, Nat.mul_right_comm n'] at x
    exact Nat.eq_of_mul_eq_mul_right (Nat.two_pow_pos _) x
  rcases Nat.le_total k k' with c | c
  · obtain ⟨x, y⟩ := frc_key key a' c
    exact ⟨x, by rw [y]⟩
  · obtain ⟨x, y⟩ := frc_key key.symm a c
    exact ⟨x.symm, by rw [y]⟩
/-- Halved while it is even and the exponent is below 0. -/
def ex1 : Nat → Nat → Int → Nat × Int
  | 0, m, e => (m, e)
  | k + 1, m, e => if m ≠ 0 ∧ m % 2 = 0 ∧ e < 0 then ex1 k (m / 2) (e + 1) else (m, e)
theorem ex1_ok : ∀ (k m : Nat) (e : Int), m ≤ k → Eqv m e (ex1 k m e).1 (ex1 k m e).2 ∧ (m = 0 ∨ (ex1 k m e).1 % 2 = 1 ∨ 0 ≤ (ex1 k m e).2) := by
  intro k
  induction k with
  | zero =>
    intro m e h
    exact ⟨Eqv.rfl' m e, .inl (by omega)⟩
  | succ k ih =>
    intro m e h
    by_cases c : m ≠ 0 ∧ m % 2 = 0 ∧ e < 0
    · have q : ex1 (k + 1) m e = ex1 k (m / 2) (e + 1) := if_pos c
      rw [q]
      obtain ⟨a, b⟩ := ih (m / 2) (e + 1) (by omega)
      refine ⟨(Eqv.half e c.2.1).trans a, ?_⟩
      rcases b with b | b
      · omega
      · exact .inr b
    · have q : ex1 (k + 1) m e = (m, e) := if_neg c
      rw [q]
      refine ⟨Eqv.rfl' m e, ?_⟩
      by_cases z : m = 0
      · exact .inl z
      · right
        by_cases o : m % 2 = 1
        · exact .inl o
        · right
          have : ¬ e < 0 := fun x => c ⟨z, by omega, x⟩
          show 0 ≤ e
          omega
/-- The fraction of m * 2^e in least terms. -/
def exN (m : Nat) (e : Int) : Nat := (ex1 m m e).1 * 2 ^ (ex1 m m e).2.toNat
def exD (m : Nat) (e : Int) : Nat := if m = 0 then 1 else 2 ^ (-(ex1 m m e).2).toNat
theorem vE_of_eqv {n d m m' : Nat} {e x x' : Int} (h : vE n d e m x) (k : Eqv m x m' x') : vE n d e m' x' := by
  refine ⟨min e (min x x'), by omega, by omega, ?_⟩
  rw [h.at _ (by omega) (by omega), k.all _ (by omega) (by omega)]
theorem ex_frc (m : Nat) (e : Int) : Frc (exN m e) (exD m e) m e := by
  obtain ⟨q, s⟩ := ex1_ok m m e (Nat.le_refl m)
  unfold exN exD
  generalize hM : (ex1 m m e).1 = M at *
  generalize hE : (ex1 m m e).2 = E at *
  by_cases z : m = 0
  · have M0 : M = 0 := by
      by_cases k : M = 0
      · exact k
      · exact absurd z (q.symm.pos k)
    rw [if_pos z, M0, z, Nat.zero_mul]
    refine ⟨⟨min 0 e, by omega, by omega, ?_⟩, 0, rfl, .inr rfl⟩
    unfold ev
    simp
  · rw [if_neg z]
    refine ⟨?_, (-E).toNat, rfl, ?_⟩
    · have v : vE (M * 2 ^ E.toNat) (2 ^ (-E).toNat) 0 M E := by
        refine ⟨min 0 E, by omega, by omega, ?_⟩
        unfold ev
        rw [Nat.mul_assoc, ← Nat.pow_add, Nat.mul_comm (2 ^ (-E).toNat), Nat.mul_assoc, ← Nat.pow_add]
        rw [show E.toNat + (0 - min 0 E).toNat = (E - min 0 E).toNat + (-E).toNat by omega]
      exact vE_of_eqv v q.symm
    · rcases s with s | s | s
      · exact absurd s z
      · by_cases c : 0 ≤ E
        · right; omega
        · left
          rw [show E.toNat = 0 by omega, Nat.pow_zero, Nat.mul_one]
          exact s
      · right; omega
theorem Frc.pos {n d m : Nat} {e : Int} (h : Frc n d m e) : 0 < d := by
  obtain ⟨_, k, rfl, _⟩ := h
  exact Nat.two_pow_pos k
theorem Frc.zero {n d m : Nat} {e : Int} (h : Frc n d m e) : n = 0 ↔ m = 0 := by
  have q := h.1.at (min 0 e) (by omega) (by omega)
  have dp := h.pos
  unfold ev at q
  have p1 := Nat.two_pow_pos (0 - min 0 e).toNat
  have p2 := Nat.two_pow_pos (e - min 0 e).toNat
  constructor
  · rintro rfl
    rw [Nat.zero_mul] at q
    by_cases k : m = 0
    · exact k
    · have := Nat.mul_pos dp (Nat.mul_pos (Nat.pos_of_ne_zero k) p2)
      omega
  · rintro rfl
    rw [Nat.zero_mul, Nat.mul_zero] at q
    by_cases k : n = 0
    · exact k
    · have := Nat.mul_pos (Nat.pos_of_ne_zero k) p1
      omega
/-- An odd number times a power of two: the denominator holds the whole of it. -/
theorem Frc.den {n d m : Nat} {e : Int} (h : Frc n d m e) (o : m % 2 = 1) : 2 ^ (-e).toNat ≤ d := by
  obtain ⟨v, k, rfl, _⟩ := h
  by_cases c : 0 ≤ e
  · rw [show (-e).toNat = 0 by omega, Nat.pow_zero]
    exact Nat.two_pow_pos k
  · have q := v.at e (by omega) (Int.le_refl _)
    rw [ev_self] at q
    unfold ev at q
    rw [show (0 - e).toNat = (-e).toNat by omega] at q
    refine Nat.pow_le_pow_right (by decide) ?_
    rcases Nat.lt_or_ge k (-e).toNat with x | x
    · exfalso
      obtain ⟨j, hj⟩ : ∃ j, (-e).toNat = k + (j + 1) := ⟨(-e).toNat - k - 1, by omega⟩
      rw [hj, Nat.pow_add, Nat.mul_comm n, Nat.mul_assoc] at q
      have e2 := Nat.eq_of_mul_eq_mul_left (Nat.two_pow_pos k) q
      rw [Nat.pow_succ] at e2
      have : m = 2 * (2 ^ j * n) := by rw [← e2]; grind
      omega
    · exact x

/-- A float's value is rounded to it. -/
theorem rdA_val {f T : Nat} (hf : 0 < f) {L : Int} {b n d : Nat} (hb : b < T * 2 ^ f) (h : Frc n d (mt f b) (xp f L b)) : rdA f T L n d 0 false = (b, false) := by
  have dp := h.pos
  by_cases z : n = 0
  · have m0 := h.zero.1 z
    have b0 : b = 0 := by
      by_cases k : b = 0
      · exact k
      · exact absurd m0 (mt_pos k)
    unfold rdA
    rw [if_pos z, b0]
  · rw [rdA_of hf z (by omega) (RD_val false dp h.1), if_pos hb]
/-- The half way place behind it to the even one of both. -/
theorem hM_odd (f b : Nat) : hM f b % 2 = 1 := by unfold hM; omega
theorem half_ne {f : Nat} {L : Int} {b x y : Nat} (h : Frc x y (hM f b) (hX f L b)) : x ≠ 0 := fun z => by
  have := h.zero.1 z
  have := hM_odd f b
  omega
theorem rdA_half {f T : Nat} (hf : 0 < f) {L : Int} {b x y : Nat} (h : Frc x y (hM f b) (hX f L b)) : rdA f T L x y 0 false = if (if b % 2 = 0 then b else b + 1) < T * 2 ^ f then (if b % 2 = 0 then b else b + 1, false) else (T * 2 ^ f, true) := by
  have dp := h.pos
  exact rdA_of hf (half_ne h) (by omega) (RD_half dp h.1)
/-- A hair's breadth above it, below it. -/
theorem hair {f : Nat} {L : Int} {b x y g : Nat} (h : Frc x y (hM f b) (hX f L b)) (hg : 2 ≤ g) :
    ¬ Up f L (x * g + 1) (y * g) 0 false b ∧ vL (x * g + 1) (y * g) 0 (mt f (b + 1)) (xp f L (b + 1)) ∧ Up f L (x * g - 1) (y * g) 0 false b ∧ ¬ vL (x * g - 1) (y * g) 0 (mt f b) (xp f L b) := by
  have dn := h.den (hM_odd f b)
  have x0 := half_ne h
  have q := h.1.at (min 0 (hX f L b)) (by omega) (by omega)
  have xg : 1 ≤ x * g := Nat.mul_pos (Nat.pos_of_ne_zero x0) (by omega)
  generalize hK : min 0 (hX f L b) = K at q
  -- in units of 2^K
  have eA : ∀ a, ev K a 0 = a * 2 ^ (-hX f L b).toNat := fun a => by unfold ev; rw [show (0 - K).toNat = (-hX f L b).toNat by omega]
  have eB : ∀ a, ev K a (hX f L b) = a * 2 ^ (hX f L b).toNat := fun a => by unfold ev; rw [show (hX f L b - K).toNat = (hX f L b).toNat by omega]
  generalize hP : 2 ^ (-hX f L b).toNat = P at dn eA
  generalize hR : 2 ^ (hX f L b).toNat = R at eB
  have P0 : 0 < P := by rw [← hP]; exact Nat.two_pow_pos _
  have R0 : 0 < R := by rw [← hR]; exact Nat.two_pow_pos _
  rw [eA, eB] at q
  -- q : x * P = y * (hM * R)
  have small : P < y * g * R := by
    have a : P * 2 ≤ y * g := Nat.le_trans (Nat.mul_le_mul_right 2 dn) (Nat.mul_le_mul_left y hg)
    have c : y * g ≤ y * g * R := Nat.le_mul_of_pos_right _ R0
    omega
  have qg : x * g * P = y * g * (hM f b * R) := by
    rw [Nat.mul_right_comm, q, Nat.mul_right_comm]
  have nx : lE (2 * mt f b + 2) (hX f L b) (mt f (b + 1)) (xp f L (b + 1)) := by
    have s := mt_succ f L b
    have t := Eqv.twice (mt f b + 1) (xp f L b)
    rw [show (mt f b + 1) * 2 = 2 * mt f b + 2 by omega] at t
    exact (t.symm.trans s).lE
  have pv : lE (mt f b) (xp f L b) (2 * mt f b) (hX f L b) := by
    have t := Eqv.twice (mt f b) (xp f L b)
    rw [Nat.mul_comm] at t
    exact t.lE
  have eH : y * g * (hM f b * R) = y * g * (2 * mt f b * R) + y * g * R := by unfold hM; rw [Nat.add_mul, Nat.one_mul, Nat.mul_add]
  have eN : y * g * ((2 * mt f b + 2) * R) = y * g * (hM f b * R) + y * g * R := by
    unfold hM
    rw [show 2 * mt f b + 2 = 2 * mt f b + 1 + 1 by omega, Nat.add_mul (2 * mt f b + 1), Nat.one_mul, Nat.mul_add]
  refine ⟨?_, ?_, ?_, ?_⟩
  · rintro (u | ⟨u, _, _⟩)
    · have w := u.at K (by omega) (by omega)
      rw [eA, eB, Nat.add_mul, qg] at w
      omega
    · have w := u.at K (by omega) (by omega)
      rw [eA, eB, Nat.add_mul, qg] at w
      omega
  · refine vL.up ?_ nx
    refine ⟨K, by omega, by omega, ?_⟩
    rw [eA, eB, Nat.add_mul, qg, eN]
    omega
  · left
    refine ⟨K, by omega, by omega, ?_⟩
    rw [eA, eB, Nat.sub_mul, qg, Nat.one_mul]
    have : P ≤ y * g * (hM f b * R) := by rw [eH]; omega
    omega
  · intro u
    have w := (u.up pv).at K (by omega) (by omega)
    rw [eA, eB, Nat.sub_mul, qg, Nat.one_mul, eH] at w
    omega
theorem rdA_hair {f T : Nat} (hf : 0 < f) {L : Int} {b x y g : Nat} (hb : b < T * 2 ^ f) (h : Frc x y (hM f b) (hX f L b)) (hg : 2 ≤ g) :
    rdA f T L (x * g + 1) (y * g) 0 false = (if b + 1 < T * 2 ^ f then (b + 1, false) else (T * 2 ^ f, true)) ∧ rdA f T L (x * g - 1) (y * g) 0 false = (b, false) := by
  obtain ⟨a1, a2, a3, a4⟩ := hair h hg
  have dp : 0 < y * g := Nat.mul_pos h.pos (by omega)
  have xg : 1 * 2 ≤ x * g := Nat.mul_le_mul (Nat.pos_of_ne_zero (half_ne h)) hg
  refine ⟨rdA_of hf (by omega) (by omega) (RD_of_le dp a1 (.inl a2)), ?_⟩
  rw [rdA_of hf (by omega) (by omega) (RD_of_ge dp a4 a3), if_pos hb]

end Go.Proofs.YtkmnkogbafhfdaaDoor
