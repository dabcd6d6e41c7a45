/-
  Rounding a number that is a hair less than told, just told, or a hair more (t below 0, 0, above 0): it is one float alone, it does not fall, it goes by a quotient and what is left. No program in sight.
-/
import Derived.Test.YtkmnkogbafhfdaaDoorRdA
namespace Go.Proofs.YtkmnkogbafhfdaaDoor

/-- The number is not beyond the half way place behind b. -/
def UpT (f : Nat) (L : Int) (n d : Nat) (e t : Int) (b : Nat) : Prop :=
  vL n d e (hM f b) (hX f L b) ∨ (vE n d e (hM f b) (hX f L b) ∧ (t < 0 ∨ (t = 0 ∧ b % 2 = 0)))
/-- b is what it is rounded to (without an end). -/
def RDT (f : Nat) (L : Int) (n d : Nat) (e t : Int) (b : Nat) : Prop := UpT f L n d e t b ∧ (b = 0 ∨ ¬ UpT f L n d e t (b - 1))
theorem UpT_zero {f : Nat} {L : Int} {n d : Nat} {e : Int} {b : Nat} : UpT f L n d e 0 b ↔ Up f L n d e false b := by
  unfold UpT Up
  constructor
  · rintro (h | ⟨h, k | k⟩)
    · exact .inl h
    · omega
    · exact .inr ⟨h, k.2, rfl⟩
  · rintro (h | ⟨h, k, _⟩)
    · exact .inl h
    · exact .inr ⟨h, .inr ⟨rfl, k⟩⟩
theorem UpT_more {f : Nat} {L : Int} {n d : Nat} {e t : Int} {b : Nat} (ht : 0 < t) : UpT f L n d e t b ↔ Up f L n d e true b := by
  unfold UpT Up
  constructor
  · rintro (h | ⟨h, k | k⟩)
    · exact .inl h
    · omega
    · omega
  · rintro (h | ⟨_, _, k⟩)
    · exact .inl h
    · cases k
theorem RDT_zero {f : Nat} {L : Int} {n d : Nat} {e : Int} {b : Nat} : RDT f L n d e 0 b ↔ RD f L n d e false b := by
  unfold RDT RD
  rw [UpT_zero, UpT_zero]
theorem RDT_more {f : Nat} {L : Int} {n d : Nat} {e t : Int} {b : Nat} (ht : 0 < t) : RDT f L n d e t b ↔ RD f L n d e true b := by
  unfold RDT RD
  rw [UpT_more ht, UpT_more ht]
theorem UpT.succ {f : Nat} {L : Int} {n d : Nat} {e t : Int} {b : Nat} (d0 : 0 < d) (h : UpT f L n d e t b) : UpT f L n d e t (b + 1) := by
  rcases h with h | ⟨h, _⟩
  · exact .inl (h.up (half_half f L b).le)
  · exact .inl (h.up d0 (half_half f L b))
theorem UpT.mono {f : Nat} {L : Int} {n d : Nat} {e t : Int} {b b' : Nat} (d0 : 0 < d) (h : UpT f L n d e t b) (k : b ≤ b') : UpT f L n d e t b' := by
  obtain ⟨j, rfl⟩ : ∃ j, b' = b + j := ⟨b' - b, by omega⟩
  clear k
  induction j with
  | zero => exact h
  | succ j ih => exact ih.succ d0
theorem RDT.le {f : Nat} {L : Int} {n d : Nat} {e t : Int} {b b' : Nat} (d0 : 0 < d) (h : RDT f L n d e t b) (k : UpT f L n d e t b') : b ≤ b' := by
  rcases h.2 with z | z
  · omega
  · rcases Nat.lt_or_ge b' b with c | c
    · exact absurd (k.mono d0 (by omega)) z
    · exact c
theorem RDT.uniq {f : Nat} {L : Int} {n d : Nat} {e t : Int} {b b' : Nat} (d0 : 0 < d) (h : RDT f L n d e t b) (k : RDT f L n d e t b') : b = b' :=
  Nat.le_antisymm (h.le d0 k.1) (k.le d0 h.1)
theorem UpT_iff {f : Nat} {L : Int} {n d n' d' : Nat} {e e' t : Int} (d0 : 0 < d) (d0' : 0 < d') (h : Eqv (n * d') e (n' * d) e') (b : Nat) : UpT f L n d e t b ↔ UpT f L n' d' e' t b := by
  unfold UpT
  rw [vL_iff d0 d0' h, vE_iff d0 d0' h]
theorem RDT_iff {f : Nat} {L : Int} {n d n' d' : Nat} {e e' t : Int} (d0 : 0 < d) (d0' : 0 < d') (h : Eqv (n * d') e (n' * d) e') (b : Nat) : RDT f L n d e t b ↔ RDT f L n' d' e' t b := by
  unfold RDT
  rw [UpT_iff d0 d0' h, UpT_iff d0 d0' h]
/-- n/d*2^e is at most n'/d'*2^e'; below it. -/
def fLe (n d : Nat) (e : Int) (n' d' : Nat) (e' : Int) : Prop := ∃ K, K ≤ e ∧ K ≤ e' ∧ ev K n e * d' ≤ ev K n' e' * d
def fLt (n d : Nat) (e : Int) (n' d' : Nat) (e' : Int) : Prop := ∃ K, K ≤ e ∧ K ≤ e' ∧ ev K n e * d' < ev K n' e' * d
theorem fLe.at {n d n' d' : Nat} {e e' : Int} (h : fLe n d e n' d' e') (K : Int) (h1 : K ≤ e) (h2 : K ≤ e') : ev K n e * d' ≤ ev K n' e' * d := by
  obtain ⟨K0, a, b, q⟩ := h
  rcases Int.le_total K K0 with c | c
  · rw [ev_at n c a, ev_at n' c b, Nat.mul_right_comm, Nat.mul_right_comm (ev K0 n' e')]
    exact Nat.mul_le_mul_right _ q
  · rw [ev_at n c h1, ev_at n' c h2, Nat.mul_right_comm, Nat.mul_right_comm (ev K n' e')] at q
    exact Nat.le_of_mul_le_mul_right q (Nat.two_pow_pos _)
theorem fLt.at {n d n' d' : Nat} {e e' : Int} (h : fLt n d e n' d' e') (K : Int) (h1 : K ≤ e) (h2 : K ≤ e') : ev K n e * d' < ev K n' e' * d := by
  obtain ⟨K0, a, b, q⟩ := h
  rcases Int.le_total K K0 with c | c
  · rw [ev_at n c a, ev_at n' c b, Nat.mul_right_comm, Nat.mul_right_comm (ev K0 n' e')]
    exact Nat.mul_lt_mul_of_pos_right q (Nat.two_pow_pos _)
  · rw [ev_at n c h1, ev_at n' c h2, Nat.mul_right_comm, Nat.mul_right_comm (ev K n' e')] at q
    exact Nat.lt_of_mul_lt_mul_right q
theorem fLt.le {n d n' d' : Nat} {e e' : Int} (h : fLt n d e n' d' e') : fLe n d e n' d' e' := by
  obtain ⟨K, a, b, q⟩ := h
  exact ⟨K, a, b, Nat.le_of_lt q⟩
theorem fLe.lo {n d n' d' m : Nat} {e e' x : Int} (d0 : 0 < d) (h : fLe n d e n' d' e') (k : vL n' d' e' m x) : vL n d e m x := by
  obtain ⟨K, hK⟩ : ∃ K, K = min e (min e' x) := ⟨_, rfl⟩
  refine ⟨K, by omega, by omega, ?_⟩
  have p := h.at K (by omega) (by omega)
  have q := k.at K (by omega) (by omega)
  have r := Nat.mul_lt_mul_of_pos_right q d0
  have s : ev K n e * d' < d * ev K m x * d' := by
    refine Nat.lt_of_le_of_lt p (Nat.lt_of_lt_of_le r (Nat.le_of_eq ?_))
    generalize ev K m x = z
    rw [Nat.mul_comm d' z, Nat.mul_right_comm, Nat.mul_comm z d]
  exact Nat.lt_of_mul_lt_mul_right s
theorem fLe.ee {n d n' d' m : Nat} {e e' x : Int} (d0' : 0 < d') (h : fLe n d e n' d' e') (k : vE n' d' e' m x) : vL n d e m x ∨ vE n d e m x := by
  obtain ⟨K, hK⟩ : ∃ K, K = min e (min e' x) := ⟨_, rfl⟩
  have p := h.at K (by omega) (by omega)
  have q := k.at K (by omega) (by omega)
  have s : ev K n e * d' ≤ d * ev K m x * d' := by
    refine Nat.le_trans p (Nat.le_of_eq ?_)
    rw [q]
    generalize ev K m x = z
    rw [Nat.mul_comm d' z, Nat.mul_right_comm, Nat.mul_comm z d]
  have s2 := Nat.le_of_mul_le_mul_right s d0'
  rcases Nat.lt_or_ge (ev K n e) (d * ev K m x) with c | c
  · exact .inl ⟨K, by omega, by omega, c⟩
  · exact .inr ⟨K, by omega, by omega, Nat.le_antisymm s2 c⟩
theorem fLt.ee {n d n' d' m : Nat} {e e' x : Int} (h : fLt n d e n' d' e') (k : vE n' d' e' m x) : vL n d e m x := by
  obtain ⟨K, hK⟩ : ∃ K, K = min e (min e' x) := ⟨_, rfl⟩
  have p := h.at K (by omega) (by omega)
  have q := k.at K (by omega) (by omega)
  have s : ev K n e * d' < d * ev K m x * d' := by
    refine Nat.lt_of_lt_of_le p (Nat.le_of_eq ?_)
    rw [q]
    generalize ev K m x = z
    rw [Nat.mul_comm d' z, Nat.mul_right_comm, Nat.mul_comm z d]
  exact ⟨K, by omega, by omega, Nat.lt_of_mul_lt_mul_right s⟩
/-- A lesser number, or the same with a lesser hair, is not rounded to a greater float. -/
theorem UpT.less {f : Nat} {L : Int} {n d n' d' : Nat} {e e' t t' : Int} {b : Nat} (d0 : 0 < d) (d0' : 0 < d') (h : fLe n d e n' d' e') (ht : t ≤ t' ∨ fLt n d e n' d' e') (k : UpT f L n' d' e' t' b) : UpT f L n d e t b := by
  rcases k with k | ⟨k, c⟩
  · exact .inl (h.lo d0 k)
  · rcases ht with ht | ht
    · rcases h.ee d0' k with v | v
      · exact .inl v
      · refine .inr ⟨v, ?_⟩
        rcases c with c | c
        · exact .inl (by omega)
        · rcases Int.lt_or_le t 0 with z | z
          · exact .inl z
          · exact .inr ⟨by omega, c.2⟩
    · exact .inl (ht.ee k)
theorem RDT.rise {f : Nat} {L : Int} {n d n' d' : Nat} {e e' t t' : Int} {b b' : Nat} (d0 : 0 < d) (d0' : 0 < d') (h : fLe n d e n' d' e') (ht : t ≤ t' ∨ fLt n d e n' d' e') (k : RDT f L n d e t b) (k' : RDT f L n' d' e' t' b') : b ≤ b' :=
  k.le d0 (UpT.less d0 d0' h ht k'.1)
/-- What lies between two numbers that are rounded to the same float is rounded to it. -/
theorem RDT.between {f : Nat} {L : Int} {n d n1 d1 n2 d2 : Nat} {e e1 e2 t t1 t2 : Int} {b c : Nat} (d0 : 0 < d) (d01 : 0 < d1) (d02 : 0 < d2)
    (h1 : fLe n1 d1 e1 n d e) (ht1 : t1 ≤ t ∨ fLt n1 d1 e1 n d e) (h2 : fLe n d e n2 d2 e2) (ht2 : t ≤ t2 ∨ fLt n d e n2 d2 e2)
    (k1 : RDT f L n1 d1 e1 t1 b) (k2 : RDT f L n2 d2 e2 t2 b) (k : RDT f L n d e t c) : c = b :=
  Nat.le_antisymm (RDT.rise d0 d02 h2 ht2 k k2) (RDT.rise d01 d0 h1 ht1 k1 k)
/-- What a quotient and what is left are rounded to. -/
def rUT (t : Int) (q r y : Nat) : Bool := decide (y < 2 * r ∨ (2 * r = y ∧ (0 < t ∨ (t = 0 ∧ q % 2 = 1))))
def rQT (t : Int) (q r y : Nat) : Nat := q + (if rUT t q r y then 1 else 0)
theorem quo_RDT {f : Nat} (hf : 0 < f) {L : Int} {n d y q r : Nat} {e l : Int} (t : Int) (d0 : 0 < d) (hr : r < y) (g : Good f L q l) (h : Eqv (n * y) e ((q * y + r) * d) l) : RDT f L n d e t (ly f L (rQT t q r y) l) := by

  have y0 : 0 < y := by omega
  obtain ⟨e1, e2⟩ := ly_parts g
  obtain ⟨i1, i2⟩ := quo_half d0 y0 h
  have ev2 := ly_even hf L q l
  have up : UpT f L n d e t (ly f L q l) ↔ rUT t q r y = false := by
    unfold UpT hM hX
    rw [e1, e2, i1, i2, ev2]
    unfold rUT
    rw [decide_eq_false_iff_not]
    have c : q % 2 = 0 ∨ q % 2 = 1 := by omega
    omega
  unfold rQT
  by_cases u : rUT t q r y = true
  · rw [if_pos u, ly_succ]
    have k : vL n d e (q + 1) l := by
      rw [vL_iff (m := q + 1) (x := l) d0 y0 h]
      refine ⟨l, Int.le_refl _, Int.le_refl _, ?_⟩
      rw [ev_self, ev_self, Nat.mul_add, Nat.mul_one, Nat.mul_comm y q]
      omega
    have s := mt_succ f L (ly f L q l)
    rw [e1, e2] at s
    refine ⟨.inl ((k.up s.lE).up (val_half f L _).le), .inr ?_⟩
    rw [Nat.add_sub_cancel]
    intro x
    rw [up.1 x] at u
    cases u
  · rw [if_neg u, Nat.add_zero]
    refine ⟨up.2 (Bool.eq_false_iff.2 u), ?_⟩
    by_cases z : ly f L q l = 0
    · exact .inl z
    · right
      intro x
      obtain ⟨c, hc⟩ : ∃ c, ly f L q l = c + 1 := ⟨ly f L q l - 1, by omega⟩
      rw [hc, Nat.add_sub_cancel] at x
      have hv := half_val f L c
      rw [← hc, e1, e2] at hv
      have v : vL n d e q l := by
        rcases x with x | ⟨x, _⟩
        · exact x.up hv.le
        · exact x.up d0 hv
      rw [vL_iff (m := q) (x := l) d0 y0 h] at v
      have := v.at l (Int.le_refl _) (Int.le_refl _)
      rw [ev_self, ev_self, Nat.mul_comm y q] at this
      omega
/-- It is always one. -/
theorem rdt_exists {f : Nat} (hf : 0 < f) {L : Int} {n d : Nat} {e : Int} (t : Int) (n0 : n ≠ 0) (d0 : d ≠ 0) : ∃ b, RDT f L n d e t b := by
  obtain ⟨g, h⟩ := quo_good (f := f) (L := L) (e := e) d0 (fE_fst n0 d0) rfl
  have yp : 0 < d * 2 ^ (max (fE n d + e - f) L - e).toNat := Nat.mul_pos (Nat.pos_of_ne_zero d0) (Nat.two_pow_pos _)
  refine ⟨_, quo_RDT (r := n * 2 ^ (e - max (fE n d + e - f) L).toNat % (d * 2 ^ (max (fE n d + e - f) L - e).toNat)) hf t (Nat.pos_of_ne_zero d0) (Nat.mod_lt _ yp) g ?_⟩
  rw [Nat.div_add_mod']
  exact h
end Go.Proofs.YtkmnkogbafhfdaaDoor
