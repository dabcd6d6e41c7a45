/-
  How round drops the last bits of a word, and that what comes out is what the number is rounded to.
-/
import Derived.Test.YtkmnkogbafhfdaaDoorRdV
namespace Go.Proofs.YtkmnkogbafhfdaaDoor

/-- How many bits are dropped. -/
def dpD (f : Nat) (L : Int) (m : Nat) (e : Int) : Int := max (max 0 ((ln m : Int) - ((f : Int) + 1))) (L - e)
/-- Is what is kept raised? -/
def dpU (m D : Nat) (more : Bool) : Bool := decide (D ≠ 0 ∧ D ≤ 64 ∧ (2 ^ (D - 1) < m % 2 ^ D ∨ (m % 2 ^ D = 2 ^ (D - 1) ∧ (more = true ∨ m / 2 ^ D % 2 = 1))))
/-- What is kept. -/
def dpK (m D : Nat) (more : Bool) : Nat := m / 2 ^ D + (if dpU m D more then 1 else 0)
/-- The answer of a word times a power of two. -/
def ndA (f T : Nat) (L : Int) (m : Nat) (e : Int) (more : Bool) : Nat × Bool :=
  if dpK m (dpD f L m e).toNat more = 0 then (0, false) else
    match pk f (T : Int) L (dpK m (dpD f L m e).toNat more) (e + dpD f L m e) with
    | some b => (b, false)
    | none => (T * 2 ^ f, true)
theorem Eqv.mul {m M : Nat} {e E : Int} (h : Eqv m e M E) (c : Nat) : Eqv (m * c) e (M * c) E := by
  obtain ⟨K, a, b, h⟩ := h
  refine ⟨K, a, b, ?_⟩
  unfold ev at h ⊢
  rw [Nat.mul_right_comm, h, Nat.mul_right_comm]
theorem Eqv.lift {m M : Nat} {e E : Int} (h : Eqv m e M E) (k : Nat) : Eqv (m * 2 ^ k) e M (E + k) := by
  refine (h.mul (2 ^ k)).trans ?_
  have s := (Eqv.shl M (E + k) k).symm
  rw [show E + (k : Int) - k = E from by omega] at s
  exact s
theorem dp_up {Y r ρ H : Nat} (hr : r < Y) : (H * Y < ρ * Y + r ↔ (H < ρ ∨ (ρ = H ∧ r ≠ 0))) ∧ (ρ * Y + r = H * Y ↔ (ρ = H ∧ r = 0)) := by
  have low : ρ < H → ρ * Y + r < H * Y := fun h => by
    have := Nat.mul_le_mul_right Y (show ρ + 1 ≤ H from h)
    rw [Nat.add_mul, Nat.one_mul] at this
    omega
  have high : H < ρ → H * Y < ρ * Y + r := fun h => by
    have := Nat.mul_le_mul_right Y (show H + 1 ≤ ρ from h)
    rw [Nat.add_mul, Nat.one_mul] at this
    omega
  rcases Nat.lt_trichotomy ρ H with c | c | c
  · have := low c
    constructor <;> constructor <;> intro h <;> omega
  · subst c
    constructor <;> constructor <;> intro h <;> omega
  · have := high c
    constructor <;> constructor <;> intro h <;> omega
/-- What is dropped, together with what was left. -/
theorem dp_rQ {q D Y r : Nat} {more flag : Bool} (hD : D ≠ 0) (hr : r < Y) (hq : D ≤ 64 ∨ q < 2 ^ 64) (hf : (r = 0 ∧ flag = more) ∨ (more = false ∧ flag = decide (r ≠ 0))) :
    rQ more (q / 2 ^ D) (q % 2 ^ D * Y + r) (2 ^ D * Y) = dpK q D flag := by
  have e2 : 2 ^ D = 2 * 2 ^ (D - 1) := by
    rw [show D = D - 1 + 1 from by omega, Nat.pow_succ, Nat.add_sub_cancel]; omega
  obtain ⟨u1, u2⟩ := dp_up (ρ := q % 2 ^ D) (H := 2 ^ (D - 1)) hr
  have far : ¬ D ≤ 64 → q % 2 ^ D < 2 ^ (D - 1) := fun c => by
    have h : q < 2 ^ 64 := by omega
    have p : 2 ^ 64 ≤ 2 ^ (D - 1) := Nat.pow_le_pow_right (by omega) (by omega)
    exact Nat.lt_of_le_of_lt (Nat.mod_le _ _) (by omega)
  have e3 : 2 ^ D * Y = 2 * (2 ^ (D - 1) * Y) := by rw [e2, Nat.mul_assoc, show D - 1 = D - 1 from rfl]
  have key : (2 ^ D * Y < 2 * (q % 2 ^ D * Y + r) ∨ 2 * (q % 2 ^ D * Y + r) = 2 ^ D * Y ∧ (more = true ∨ q / 2 ^ D % 2 = 1)) ↔ (D ≠ 0 ∧ D ≤ 64 ∧ (2 ^ (D - 1) < q % 2 ^ D ∨ q % 2 ^ D = 2 ^ (D - 1) ∧ (flag = true ∨ q / 2 ^ D % 2 = 1))) := by
    rw [e3]
    generalize q / 2 ^ D % 2 = z at *
    generalize q % 2 ^ D * Y + r = A at *
    generalize 2 ^ (D - 1) * Y = C at *
    generalize q % 2 ^ D = ρ at *
    generalize 2 ^ (D - 1) = H at *
    clear e2 e3 hq
    rcases hf with ⟨h1, h2⟩ | ⟨h1, h2⟩
    · rw [h2]
      by_cases m : more = true
      · simp only [m, true_or, and_true]
        constructor <;> intro h <;> omega
      · rw [Bool.not_eq_true] at m
        simp only [m, Bool.false_eq_true, false_or]
        constructor <;> intro h <;> omega
    · rw [h1, h2]
      simp only [decide_eq_true_eq]
      constructor <;> intro h
      · simp only [Bool.false_eq_true, false_or] at h
        omega
      · simp only [Bool.false_eq_true, false_or]
        omega
  unfold rQ dpK rU dpU
  simp only [key]
/-- What is rounded with bits dropped. -/
theorem dp_RD {f : Nat} (hf : 0 < f) {L : Int} {n d Y q r D : Nat} {e0 e : Int} {more flag : Bool} (d0 : 0 < d) (hD : D ≠ 0) (hr : r < Y) (hq : D ≤ 64 ∨ q < 2 ^ 64) (hfl : (r = 0 ∧ flag = more) ∨ (more = false ∧ flag = decide (r ≠ 0)))
    (g : Good f L (q / 2 ^ D) (e + D)) (h : Eqv (n * Y) e0 ((q * Y + r) * d) e) : RD f L n d e0 more (ly f L (dpK q D flag) (e + D)) := by
  rw [← dp_rQ hD hr hq hfl]
  have lt : q % 2 ^ D * Y + r < 2 ^ D * Y := by
    have a : q % 2 ^ D < 2 ^ D := Nat.mod_lt _ (Nat.two_pow_pos D)
    have := Nat.mul_le_mul_right Y (show q % 2 ^ D + 1 ≤ 2 ^ D from a)
    rw [Nat.add_mul, Nat.one_mul] at this
    omega
  refine quo_RD hf more d0 lt g ?_
  have e1 : q / 2 ^ D * (2 ^ D * Y) + (q % 2 ^ D * Y + r) = q * Y + r := by
    rw [← Nat.mul_assoc, ← Nat.add_assoc, ← Nat.add_mul, Nat.mul_comm (q / 2 ^ D), Nat.div_add_mod]
  rw [e1, show n * (2 ^ D * Y) = n * Y * 2 ^ D from by rw [Nat.mul_comm (2 ^ D) Y, Nat.mul_assoc]]
  exact h.lift D
theorem ln_div {m D : Nat} : m / 2 ^ D < 2 ^ (ln m - D) := by
  rw [Nat.div_lt_iff_lt_mul (Nat.two_pow_pos D), ← Nat.pow_add]
  exact Nat.lt_of_lt_of_le (ln_lt m) (Nat.pow_le_pow_right (by omega) (by omega))
theorem dp_good {f : Nat} {L : Int} {m : Nat} {e : Int} (m0 : m ≠ 0) (h : (f : Int) + 1 < ln m ∨ e < L) : Good f L (m / 2 ^ (dpD f L m e).toNat) (e + (dpD f L m e).toNat) := by
  have l1 := ln_pos m0
  have eD : ((dpD f L m e).toNat : Int) = dpD f L m e := by unfold dpD; omega
  have hD : dpD f L m e = (ln m : Int) - ((f : Int) + 1) ∧ L - e ≤ dpD f L m e ∨ dpD f L m e = L - e ∧ (ln m : Int) - ((f : Int) + 1) ≤ dpD f L m e := by unfold dpD; omega
  generalize (dpD f L m e).toNat = D at *
  generalize dpD f L m e = I at *
  subst eD
  refine ⟨Nat.lt_of_lt_of_le ln_div (Nat.pow_le_pow_right (by omega) (by omega)), by omega, ?_⟩
  rcases hD with ⟨a, b⟩ | ⟨a, b⟩
  · left
    rw [Nat.le_div_iff_mul_le (Nat.two_pow_pos D), ← Nat.pow_add]
    have := ln_le m0
    rw [show f + D = ln m - 1 from by omega]
    exact this
  · right; omega
theorem dpK_le {m D k : Nat} {more : Bool} (h : m / 2 ^ D < 2 ^ k) : dpK m D more ≤ 2 ^ k := by
  unfold dpK
  split <;> omega
theorem dpK_ge {m D : Nat} {more : Bool} : m / 2 ^ D ≤ dpK m D more := by
  unfold dpK
  split <;> omega
theorem ly_zero_of {f : Nat} {L : Int} : ly f L 0 L = 0 := by
  unfold ly
  rw [Int.sub_self]; simp
/-- From what is kept to the answer. -/
theorem nd_of {f T : Nat} (hf : 0 < f) (hT : 2 ≤ T) {L : Int} {n d m : Nat} {e0 e : Int} {more flag : Bool} (n0 : n ≠ 0) (d0 : d ≠ 0) (g : Good f L (m / 2 ^ (dpD f L m e).toNat) (e + (dpD f L m e).toNat)) (h : RD f L n d e0 more (ly f L (dpK m (dpD f L m e).toNat flag) (e + (dpD f L m e).toNat))) :
    ndA f T L m e flag = rdA f T L n d e0 more := by
  rw [rdA_of hf n0 d0 h]
  have eD : ((dpD f L m e).toNat : Int) = dpD f L m e := by unfold dpD; omega
  have le := dpK_le (more := flag) g.1
  have ge := dpK_ge (m := m) (D := (dpD f L m e).toNat) (more := flag)
  unfold ndA
  by_cases z : dpK m (dpD f L m e).toNat flag = 0
  · rw [if_pos z, z]
    have eL : e + ((dpD f L m e).toNat : Int) = L := by
      rcases g.2.2 with c | c
      · have := Nat.two_pow_pos f
        omega
      · exact c
    rw [eL, ly_zero_of, if_pos (Nat.mul_pos (by omega) (Nat.two_pow_pos f))]
  · rw [if_neg z, show e + dpD f L m e = e + ((dpD f L m e).toNat : Int) from by rw [eD]]
    have k3 : 2 ^ f ≤ dpK m (dpD f L m e).toNat flag ∨ e + ((dpD f L m e).toNat : Int) = L := by
      rcases g.2.2 with c | c
      · left; omega
      · right; exact c
    rw [pk_ly hT z le g.2.1 k3]
    generalize ly f L (dpK m (dpD f L m e).toNat flag) (e + ((dpD f L m e).toNat : Int)) = b
    by_cases c : b < T * 2 ^ f
    · rw [if_pos c, if_pos c]
    · rw [if_neg c, if_neg c]
theorem dpD_pos {f : Nat} {L : Int} {m : Nat} {e : Int} (h : (f : Int) + 1 < ln m ∨ e < L) : (dpD f L m e).toNat ≠ 0 := by unfold dpD; omega
/-- A word times a power of two. -/
theorem nd_whole {f T : Nat} (hf : 0 < f) (hT : 2 ≤ T) {L : Int} {m : Nat} {e : Int} (more : Bool) (hm : m < 2 ^ 64) : ndA f T L m e more = rdA f T L m 1 e more := by
  by_cases m0 : m = 0
  · subst m0
    have z : dpK 0 (dpD f L 0 e).toNat more = 0 := by
      unfold dpK dpU
      rw [Nat.zero_div, Nat.zero_mod, if_neg]
      rw [decide_eq_true_eq]
      rintro ⟨_, _, c | ⟨c, _⟩⟩
      · exact absurd c (Nat.not_lt_zero _)
      · have := Nat.two_pow_pos ((dpD f L 0 e).toNat - 1); omega
    unfold ndA rdA
    rw [if_pos z, if_pos rfl]
  by_cases h : (f : Int) + 1 < ln m ∨ e < L
  · have g := dp_good m0 h
    refine nd_of hf hT m0 (by omega) g (dp_RD (Y := 1) (r := 0) hf (by omega) (dpD_pos h) (by omega) (.inr hm) (.inl ⟨rfl, rfl⟩) g ?_)
    rw [Nat.mul_one, Nat.add_zero, Nat.mul_one]
    exact Eqv.rfl' m e
  · have h1 : ln m ≤ f + 1 := by omega
    have h2 : L ≤ e := by omega
    have D0 : dpD f L m e = 0 := by unfold dpD; omega
    have K0 : dpK m 0 more = m := by
      unfold dpK dpU
      rw [if_neg (by simp), Nat.pow_zero, Nat.div_one]; rfl
    have hk : ∃ k : Nat, L ≤ e - k ∧ ln m + k ≤ f + 1 ∧ (ln m + k = f + 1 ∨ e - (k : Int) = L) := by
      by_cases c : e - ((f + 1 - ln m : Nat) : Int) < L
      · exact ⟨(e - L).toNat, by omega, by omega, by omega⟩
      · exact ⟨f + 1 - ln m, by omega, by omega, by omega⟩
    obtain ⟨k, k1, k2, k3⟩ := hk
    have l := ln_shl m0 k
    have n0 : m * 2 ^ k ≠ 0 := Nat.mul_ne_zero m0 (Nat.ne_of_gt (Nat.two_pow_pos k))
    have g : Good f L (m * 2 ^ k) (e - k) := by
      refine ⟨(ln_iff _ _).1 (by omega), k1, ?_⟩
      rcases k3 with c | c
      · left
        have := ln_le n0
        rw [l, c] at this
        exact this
      · right; exact c
    have q := Eqv.shl m e k
    have r : RD f L m 1 e more (ly f L (m * 2 ^ k) (e - k)) := by
      obtain ⟨p1, p2⟩ := ly_parts g
      refine RD_val more (by omega) ?_
      rw [p1, p2]
      obtain ⟨K, a, b, c⟩ := q
      exact ⟨K, a, b, by rw [Nat.one_mul]; exact c⟩
    rw [rdA_of hf m0 (by omega) r]
    unfold ndA
    rw [D0, show (0 : Int).toNat = 0 from rfl, K0, if_neg m0, Int.add_zero, pk_same m0 q, pk_ly hT n0 (Nat.le_of_lt g.1) g.2.1 g.2.2]
    generalize ly f L (m * 2 ^ k) (e - k) = b
    by_cases c : b < T * 2 ^ f
    · rw [if_pos c, if_pos c]
    · rw [if_neg c, if_neg c]
/-- A quotient of 63 bits and more, and whether something is left. -/
theorem nd_ratio {f T : Nat} (hf : 0 < f) (hf2 : f ≤ 52) (hT : 2 ≤ T) {L : Int} {n d Y q r : Nat} {e0 e : Int} (n0 : n ≠ 0) (d0 : d ≠ 0) (hr : r < Y) (hq1 : 2 ^ 62 ≤ q) (hq2 : q < 2 ^ 64) (h : Eqv (n * Y) e0 ((q * Y + r) * d) e) :
    ndA f T L q e (decide (r ≠ 0)) = rdA f T L n d e0 false := by
  have q0 : q ≠ 0 := by omega
  have l : 62 < ln q := by
    apply Nat.lt_of_not_le
    intro c
    have := (ln_iff q 62).1 c
    omega
  have c : (f : Int) + 1 < ln q ∨ e < L := .inl (by omega)
  have g := dp_good (L := L) (e := e) q0 c
  exact nd_of hf hT n0 d0 g (dp_RD hf (Nat.pos_of_ne_zero d0) (dpD_pos c) hr (.inr hq2) (.inr ⟨rfl, rfl⟩) g h)
end Go.Proofs.YtkmnkogbafhfdaaDoor
