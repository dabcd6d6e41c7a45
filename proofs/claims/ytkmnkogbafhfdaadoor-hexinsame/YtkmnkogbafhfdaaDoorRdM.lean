/-
  Rounding to floats as plain numbers: a fraction times a power of two against a float's half way place; the float that is rounded to, as the least one whose half way place isn't passed: it is one alone, it does not fall, it hangs on the number alone. No program in sight.
-/
import Derived.Test.YtkmnkogbafhfdaaDoorBtK
namespace Go.Proofs.YtkmnkogbafhfdaaDoor

/-- n / d * 2^e is below m * 2^x; is it. -/
def vL (n d : Nat) (e : Int) (m : Nat) (x : Int) : Prop := ∃ K, K ≤ e ∧ K ≤ x ∧ ev K n e < d * ev K m x
def vE (n d : Nat) (e : Int) (m : Nat) (x : Int) : Prop := ∃ K, K ≤ e ∧ K ≤ x ∧ ev K n e = d * ev K m x
theorem mul_swap (a b c : Nat) : a * (b * c) = a * b * c := (Nat.mul_assoc a b c).symm
theorem vL.at {n d m : Nat} {e x : Int} (h : vL n d e m x) (K : Int) (h1 : K ≤ e) (h2 : K ≤ x) : ev K n e < d * ev K m x := by
  obtain ⟨K0, a, b, q⟩ := h
  rcases Int.le_total K K0 with c | c
  · rw [ev_at n c a, ev_at m c b, mul_swap]
    exact Nat.mul_lt_mul_of_pos_right q (Nat.two_pow_pos _)
  · rw [ev_at n c h1, ev_at m c h2, mul_swap] at q
    exact Nat.lt_of_mul_lt_mul_right q
theorem vE.at {n d m : Nat} {e x : Int} (h : vE n d e m x) (K : Int) (h1 : K ≤ e) (h2 : K ≤ x) : ev K n e = d * ev K m x := by
  obtain ⟨K0, a, b, q⟩ := h
  rcases Int.le_total K K0 with c | c
  · rw [ev_at n c a, ev_at m c b, mul_swap, q]
  · rw [ev_at n c h1, ev_at m c h2, mul_swap] at q
    exact Nat.eq_of_mul_eq_mul_right (Nat.two_pow_pos _) q
theorem vL.not_vE {n d m : Nat} {e x : Int} (h : vL n d e m x) : ¬ vE n d e m x := fun k => by
  have a := h.at (min e x) (by omega) (by omega)
  have b := k.at (min e x) (by omega) (by omega)
  omega
/-- m * 2^x is at most m' * 2^x'; below it. -/
def lE (m : Nat) (x : Int) (m' : Nat) (x' : Int) : Prop := ∃ K, K ≤ x ∧ K ≤ x' ∧ ev K m x ≤ ev K m' x'
def lT (m : Nat) (x : Int) (m' : Nat) (x' : Int) : Prop := ∃ K, K ≤ x ∧ K ≤ x' ∧ ev K m x < ev K m' x'
theorem lE.at {m m' : Nat} {x x' : Int} (h : lE m x m' x') (K : Int) (h1 : K ≤ x) (h2 : K ≤ x') : ev K m x ≤ ev K m' x' := by
  obtain ⟨K0, a, b, q⟩ := h
  rcases Int.le_total K K0 with c | c
  · rw [ev_at m c a, ev_at m' c b]
    exact Nat.mul_le_mul_right _ q
  · rw [ev_at m c h1, ev_at m' c h2] at q
    exact Nat.le_of_mul_le_mul_right q (Nat.two_pow_pos _)
theorem lT.at {m m' : Nat} {x x' : Int} (h : lT m x m' x') (K : Int) (h1 : K ≤ x) (h2 : K ≤ x') : ev K m x < ev K m' x' := by
  obtain ⟨K0, a, b, q⟩ := h
  rcases Int.le_total K K0 with c | c
  · rw [ev_at m c a, ev_at m' c b]
    exact Nat.mul_lt_mul_of_pos_right q (Nat.two_pow_pos _)
  · rw [ev_at m c h1, ev_at m' c h2] at q
    exact Nat.lt_of_mul_lt_mul_right q
theorem lT.le {m m' : Nat} {x x' : Int} (h : lT m x m' x') : lE m x m' x' := by
  obtain ⟨K, a, b, q⟩ := h
  exact ⟨K, a, b, Nat.le_of_lt q⟩
theorem lT.trans {m m' m'' : Nat} {x x' x'' : Int} (h : lT m x m' x') (k : lE m' x' m'' x'') : lT m x m'' x'' := by
  refine ⟨min x (min x' x''), by omega, by omega, ?_⟩
  exact Nat.lt_of_lt_of_le (h.at _ (by omega) (by omega)) (k.at _ (by omega) (by omega))
theorem vL.up {n d m m' : Nat} {e x x' : Int} (h : vL n d e m x) (k : lE m x m' x') : vL n d e m' x' := by
  refine ⟨min e (min x x'), by omega, by omega, ?_⟩
  exact Nat.lt_of_lt_of_le (h.at _ (by omega) (by omega)) (Nat.mul_le_mul_left d (k.at _ (by omega) (by omega)))
theorem vE.up {n d m m' : Nat} {e x x' : Int} (h : vE n d e m x) (d0 : 0 < d) (k : lT m x m' x') : vL n d e m' x' := by
  refine ⟨min e (min x x'), by omega, by omega, ?_⟩
  rw [h.at _ (by omega) (by omega)]
  exact Nat.mul_lt_mul_of_pos_left (k.at _ (by omega) (by omega)) d0
/-- The next float's value, the half way places around it. -/
theorem mt_succ (f : Nat) (L : Int) (b : Nat) : Eqv (mt f b + 1) (xp f L b) (mt f (b + 1)) (xp f L (b + 1)) := by
  have g := parts_good f L b
  have g' := parts_good f L (b + 1)
  have p := Nat.two_pow_pos f
  have d1 := Nat.div_add_mod b (2 ^ f)
  have d2 := Nat.div_add_mod (b + 1) (2 ^ f)
  have m1 := Nat.mod_lt b p
  have m2 := Nat.mod_lt (b + 1) p
  by_cases c : b % 2 ^ f + 1 < 2 ^ f
  · have e1 : (b + 1) / 2 ^ f = b / 2 ^ f := by
      rw [← d1, Nat.add_assoc, Nat.mul_add_div p, Nat.div_eq_of_lt c, Nat.mul_add_div p, Nat.div_eq_of_lt m1]
    have e2 : (b + 1) % 2 ^ f = b % 2 ^ f + 1 := by
      rw [← d1, Nat.add_assoc, Nat.mul_add_mod, Nat.mod_eq_of_lt c, Nat.mul_add_mod, Nat.mod_mod]
    have e3 : mt f (b + 1) = mt f b + 1 := by
      unfold mt
      rw [e1, e2]
      split
      · rfl
      · omega
    have e4 : xp f L (b + 1) = xp f L b := by
      unfold xp
      rw [e1]
    rw [e3, e4]
    exact Eqv.rfl' _ _
  · have c' : b % 2 ^ f + 1 = 2 ^ f := Nat.le_antisymm m1 (Nat.not_lt.1 c)
    have e1 : (b + 1) / 2 ^ f = b / 2 ^ f + 1 := by
      rw [← d1, Nat.add_assoc, c', ← Nat.mul_succ, Nat.mul_div_cancel_left _ p, Nat.mul_add_div p, Nat.div_eq_of_lt m1]
    have e2 : (b + 1) % 2 ^ f = 0 := by
      rw [← d1, Nat.add_assoc, c', ← Nat.mul_succ, Nat.mul_mod_right]
    have e3 : mt f (b + 1) = 2 ^ f := by
      unfold mt
      rw [e1, e2, if_neg (Nat.succ_ne_zero _), Nat.zero_add]
    by_cases z : b / 2 ^ f = 0
    · have e4 : mt f b + 1 = 2 ^ f := by
        unfold mt
        rw [if_pos z]
        rw [z, Nat.mul_zero, Nat.zero_add] at d1
        omega
      have e5 : xp f L b = xp f L (b + 1) := by
        unfold xp
        rw [e1, if_pos z, if_neg (Nat.succ_ne_zero _), z]
        omega
      rw [e3, e4, e5]
      exact Eqv.rfl' _ _
    · have e4 : mt f b + 1 = 2 ^ f * 2 := by
        unfold mt
        rw [if_neg z, Nat.add_right_comm, c', Nat.mul_two]
      have e5 : xp f L (b + 1) = xp f L b + 1 := by
        unfold xp
        rw [e1, if_neg z, if_neg (Nat.succ_ne_zero _)]
        generalize b / 2 ^ f = q
        omega
      rw [e3, e4, e5]
      have := Eqv.half (m := 2 ^ f * 2) (xp f L b) (Nat.mul_mod_left _ _)
      rw [Nat.mul_div_cancel _ (by decide)] at this
      exact this
theorem Eqv.lE {m m' : Nat} {x x' : Int} (h : Eqv m x m' x') : lE m x m' x' := by
  obtain ⟨K, a, b, q⟩ := h
  exact ⟨K, a, b, Nat.le_of_eq q⟩
/-- The half way place behind a float. -/
def hM (f b : Nat) : Nat := 2 * mt f b + 1
def hX (f : Nat) (L : Int) (b : Nat) : Int := xp f L b - 1
theorem ev_pred (m : Nat) (x : Int) : ev (x - 1) m x = m * 2 := by
  unfold ev
  rw [show (x - (x - 1)).toNat = 1 by omega]
theorem ev_self (m : Nat) (x : Int) : ev x m x = m := by
  unfold ev
  rw [Int.sub_self]
  simp
theorem val_half (f : Nat) (L : Int) (b : Nat) : lT (mt f b) (xp f L b) (hM f b) (hX f L b) := by
  refine ⟨xp f L b - 1, by omega, Int.le_refl _, ?_⟩
  unfold hM hX
  rw [ev_pred, ev_self]
  omega
theorem half_val (f : Nat) (L : Int) (b : Nat) : lT (hM f b) (hX f L b) (mt f (b + 1)) (xp f L (b + 1)) := by
  refine lT.trans (m' := mt f b + 1) (x' := xp f L b) ⟨xp f L b - 1, Int.le_refl _, by omega, ?_⟩ (mt_succ f L b).lE
  unfold hM hX
  rw [ev_pred, ev_self]
  omega
theorem half_half (f : Nat) (L : Int) (b : Nat) : lT (hM f b) (hX f L b) (hM f (b + 1)) (hX f L (b + 1)) := (half_val f L b).trans (val_half f L (b + 1)).le

/-- The number (a hair more, if 'more') is not beyond the half way place behind b, or there, and b is even. -/
def Up (f : Nat) (L : Int) (n d : Nat) (e : Int) (more : Bool) (b : Nat) : Prop :=
  vL n d e (hM f b) (hX f L b) ∨ (vE n d e (hM f b) (hX f L b) ∧ b % 2 = 0 ∧ more = false)
/-- b is what the number is rounded to (without an end). -/
def RD (f : Nat) (L : Int) (n d : Nat) (e : Int) (more : Bool) (b : Nat) : Prop := Up f L n d e more b ∧ (b = 0 ∨ ¬ Up f L n d e more (b - 1))
theorem Up.succ {f : Nat} {L : Int} {n d : Nat} {e : Int} {more : Bool} {b : Nat} (d0 : 0 < d) (h : Up f L n d e more b) : Up f L n d e more (b + 1) := by
  rcases h with h | ⟨h, _, _⟩
  · exact .inl (h.up (half_half f L b).le)
  · exact .inl (h.up d0 (half_half f L b))
theorem Up.mono {f : Nat} {L : Int} {n d : Nat} {e : Int} {more : Bool} {b b' : Nat} (d0 : 0 < d) (h : Up f L n d e more b) (k : b ≤ b') : Up f L n d e more b' := by
  obtain ⟨j, rfl⟩ : ∃ j, b' = b + j := ⟨b' - b, by omega⟩
  clear k
  induction j with
  | zero => exact h
  | succ j ih => exact ih.succ d0
theorem RD.le {f : Nat} {L : Int} {n d : Nat} {e : Int} {more : Bool} {b b' : Nat} (d0 : 0 < d) (h : RD f L n d e more b) (k : Up f L n d e more b') : b ≤ b' := by
  rcases h.2 with z | z
  · omega
  · rcases Nat.lt_or_ge b' b with c | c
    · exact absurd (k.mono d0 (by omega)) z
    · exact c
theorem RD.uniq {f : Nat} {L : Int} {n d : Nat} {e : Int} {more : Bool} {b b' : Nat} (d0 : 0 < d) (h : RD f L n d e more b) (k : RD f L n d e more b') : b = b' :=
  Nat.le_antisymm (h.le d0 k.1) (k.le d0 h.1)
/-- It hangs on the number alone. -/
theorem vL_iff {n d n' d' m : Nat} {e e' x : Int} (d0 : 0 < d) (d0' : 0 < d') (h : Eqv (n * d') e (n' * d) e') : vL n d e m x ↔ vL n' d' e' m x := by
  have key := h.all (min x (min e e')) (by omega) (by omega)
  have a1 : ev (min x (min e e')) (n * d') e = ev (min x (min e e')) n e * d' := by unfold ev; rw [Nat.mul_right_comm]
  have a2 : ev (min x (min e e')) (n' * d) e' = ev (min x (min e e')) n' e' * d := by unfold ev; rw [Nat.mul_right_comm]
  rw [a1, a2] at key
  generalize hK : min x (min e e') = K at key
  constructor
  · intro k
    refine ⟨K, by omega, by omega, ?_⟩
    have q := k.at K (by omega) (by omega)
    have q2 := Nat.mul_lt_mul_of_pos_right q d0'
    rw [key, Nat.mul_comm d, Nat.mul_right_comm] at q2
    have q3 := Nat.lt_of_mul_lt_mul_right q2
    rw [Nat.mul_comm] at q3
    exact q3
  · intro k
    refine ⟨K, by omega, by omega, ?_⟩
    have q := k.at K (by omega) (by omega)
    have q2 := Nat.mul_lt_mul_of_pos_right q d0
    rw [← key, Nat.mul_comm d', Nat.mul_right_comm] at q2
    have q3 := Nat.lt_of_mul_lt_mul_right q2
    rw [Nat.mul_comm] at q3
    exact q3
theorem vE_iff {n d n' d' m : Nat} {e e' x : Int} (d0 : 0 < d) (d0' : 0 < d') (h : Eqv (n * d') e (n' * d) e') : vE n d e m x ↔ vE n' d' e' m x := by
  have key := h.all (min x (min e e')) (by omega) (by omega)
  have a1 : ev (min x (min e e')) (n * d') e = ev (min x (min e e')) n e * d' := by unfold ev; rw [Nat.mul_right_comm]
  have a2 : ev (min x (min e e')) (n' * d) e' = ev (min x (min e e')) n' e' * d := by unfold ev; rw [Nat.mul_right_comm]
  rw [a1, a2] at key
  generalize hK : min x (min e e') = K at key
  constructor
  · intro k
    refine ⟨K, by omega, by omega, ?_⟩
    rw [k.at K (by omega) (by omega), Nat.mul_comm d, Nat.mul_right_comm] at key
    have := Nat.eq_of_mul_eq_mul_right d0 key
    rw [← this, Nat.mul_comm]
  · intro k
    refine ⟨K, by omega, by omega, ?_⟩
    rw [k.at K (by omega) (by omega), Nat.mul_comm d', Nat.mul_right_comm] at key
    have := Nat.eq_of_mul_eq_mul_right d0' key
    rw [this, Nat.mul_comm]
theorem Up_iff {f : Nat} {L : Int} {n d n' d' : Nat} {e e' : Int} {more : Bool} (d0 : 0 < d) (d0' : 0 < d') (h : Eqv (n * d') e (n' * d) e') (b : Nat) : Up f L n d e more b ↔ Up f L n' d' e' more b := by
  unfold Up
  rw [vL_iff d0 d0' h, vE_iff d0 d0' h]
theorem RD_iff {f : Nat} {L : Int} {n d n' d' : Nat} {e e' : Int} {more : Bool} (d0 : 0 < d) (d0' : 0 < d') (h : Eqv (n * d') e (n' * d) e') (b : Nat) : RD f L n d e more b ↔ RD f L n' d' e' more b := by
  unfold RD
  rw [Up_iff d0 d0' h, Up_iff d0 d0' h]
/-- A greater number is not rounded to a lesser float. -/
theorem Up.less {f : Nat} {L : Int} {n n' d : Nat} {e : Int} {more : Bool} {b : Nat} (h : Up f L n' d e more b) (k : n ≤ n') : Up f L n d e more b := by
  have key : ∀ K, ev K n e ≤ ev K n' e := fun K => Nat.mul_le_mul_right _ k
  rcases h with h | ⟨h, h2, h3⟩
  · left
    refine ⟨min e (hX f L b), by omega, by omega, ?_⟩
    exact Nat.lt_of_le_of_lt (key _) (h.at _ (by omega) (by omega))
  · have q := h.at (min e (hX f L b)) (by omega) (by omega)
    have := key (min e (hX f L b))
    rcases Nat.lt_or_ge (ev (min e (hX f L b)) n e) (ev (min e (hX f L b)) n' e) with c | c
    · exact .inl ⟨min e (hX f L b), by omega, by omega, by rw [← q]; exact c⟩
    · exact .inr ⟨⟨min e (hX f L b), by omega, by omega, by rw [← q]; omega⟩, h2, h3⟩
theorem RD.mono {f : Nat} {L : Int} {n n' d : Nat} {e : Int} {more : Bool} {b b' : Nat} (d0 : 0 < d) (k : n ≤ n') (h : RD f L n d e more b) (h' : RD f L n' d e more b') : b ≤ b' := h.le d0 (h'.1.less k)

end Go.Proofs.YtkmnkogbafhfdaaDoor
