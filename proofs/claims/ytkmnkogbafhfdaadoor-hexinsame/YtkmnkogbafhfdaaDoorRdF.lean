/-
  Rounding to floats as plain numbers, the reckoning: by a quotient and what is left; where a number lies to a float's value and its half way place. No program in sight.
-/
import Derived.Test.YtkmnkogbafhfdaaDoorRdM
namespace Go.Proofs.YtkmnkogbafhfdaaDoor

/-- The parts of the bits of a mantissa in its place. -/
theorem ly_parts {f : Nat} {L : Int} {M : Nat} {E : Int} (g : Good f L M E) : mt f (ly f L M E) = M ∧ xp f L (ly f L M E) = E := by
  obtain ⟨a, b, c⟩ := g
  have p := Nat.two_pow_pos f
  rw [Nat.pow_succ] at a
  by_cases k : M < 2 ^ f
  · have eL : E = L := by
      rcases c with c | c
      · omega
      · exact c
    subst eL
    have e : ly f E M E = M := by unfold ly; rw [Int.sub_self]; simp
    have z : M / 2 ^ f = 0 := Nat.div_eq_of_lt k
    rw [e]
    exact ⟨by unfold mt; rw [if_pos z], by unfold xp; rw [if_pos z]⟩
  · have e : ly f L M E = ((E - L).toNat + 1) * 2 ^ f + (M - 2 ^ f) := by
      unfold ly
      rw [Nat.succ_mul]
      omega
    have hd : (((E - L).toNat + 1) * 2 ^ f + (M - 2 ^ f)) / 2 ^ f = (E - L).toNat + 1 := by
      rw [Nat.mul_comm, Nat.mul_add_div p, Nat.div_eq_of_lt (by omega), Nat.add_zero]
    have hm : (((E - L).toNat + 1) * 2 ^ f + (M - 2 ^ f)) % 2 ^ f = M - 2 ^ f := by
      rw [Nat.mul_comm, Nat.mul_add_mod, Nat.mod_eq_of_lt (by omega)]
    rw [e]
    refine ⟨?_, ?_⟩
    · unfold mt
      rw [hd, hm, if_neg (Nat.succ_ne_zero _)]
      omega
    · unfold xp
      rw [hd, if_neg (Nat.succ_ne_zero _)]
      omega
theorem ly_succ (f : Nat) (L : Int) (M : Nat) (E : Int) : ly f L (M + 1) E = ly f L M E + 1 := rfl
theorem ly_even {f : Nat} (hf : 0 < f) (L : Int) (M : Nat) (E : Int) : ly f L M E % 2 = M % 2 := by
  obtain ⟨k, rfl⟩ : ∃ k, f = k + 1 := ⟨f - 1, by omega⟩
  unfold ly
  rw [Nat.pow_succ, ← Nat.mul_assoc, Nat.add_comm, Nat.add_mul_mod_self_right]
theorem ly_top_f {f : Nat} {L : Int} {E : Int} (h : L ≤ E) : ly f L (2 ^ f) (E + 1) = ly f L (2 ^ (f + 1)) E := by
  unfold ly
  rw [show (E + 1 - L).toNat = (E - L).toNat + 1 by omega, Nat.succ_mul, Nat.pow_succ, Nat.mul_two]
  omega
/-- By a quotient and what is left, the number lies below the half way place behind the quotient's float, or there. -/
theorem quo_half {n d y q r : Nat} {e l : Int} (d0 : 0 < d) (y0 : 0 < y) (h : Eqv (n * y) e ((q * y + r) * d) l) : (vL n d e (2 * q + 1) (l - 1) ↔ 2 * r < y) ∧ (vE n d e (2 * q + 1) (l - 1) ↔ 2 * r = y) := by
  have a := vL_iff (m := 2 * q + 1) (x := l - 1) d0 y0 h
  have b := vE_iff (m := 2 * q + 1) (x := l - 1) d0 y0 h
  rw [a, b]
  have e1 : ev (l - 1) (q * y + r) l = (q * y + r) * 2 := ev_pred _ _
  have e2 : ev (l - 1) (2 * q + 1) (l - 1) = 2 * q + 1 := ev_self _ _
  have e3 : y * (2 * q + 1) = q * y * 2 + y := by rw [Nat.mul_add, Nat.mul_one, Nat.mul_comm 2 q, ← Nat.mul_assoc, Nat.mul_comm y q]
  constructor
  · constructor
    · intro k
      have := k.at (l - 1) (by omega) (Int.le_refl _)
      rw [e1, e2, e3] at this
      omega
    · intro k
      refine ⟨l - 1, by omega, Int.le_refl _, ?_⟩
      rw [e1, e2, e3]
      omega
  · constructor
    · intro k
      have := k.at (l - 1) (by omega) (Int.le_refl _)
      rw [e1, e2, e3] at this
      omega
    · intro k
      refine ⟨l - 1, by omega, Int.le_refl _, ?_⟩
      rw [e1, e2, e3]
      omega
/-- The number against a float's value. -/
theorem RD_of_ge {f : Nat} {L : Int} {n d : Nat} {e : Int} {more : Bool} {b : Nat} (d0 : 0 < d) (h : ¬ vL n d e (mt f b) (xp f L b)) (k : Up f L n d e more b) : RD f L n d e more b := by
  refine ⟨k, ?_⟩
  by_cases z : b = 0
  · exact .inl z
  · right
    intro u
    obtain ⟨c, rfl⟩ : ∃ c, b = c + 1 := ⟨b - 1, by omega⟩
    rw [Nat.add_sub_cancel] at u
    rcases u with u | ⟨u, _, _⟩
    · exact h (u.up (half_val f L c).le)
    · exact h (u.up d0 (half_val f L c))
theorem RD_of_le {f : Nat} {L : Int} {n d : Nat} {e : Int} {more : Bool} {b : Nat} (d0 : 0 < d) (h : ¬ Up f L n d e more b) (k : vL n d e (mt f (b + 1)) (xp f L (b + 1)) ∨ vE n d e (mt f (b + 1)) (xp f L (b + 1))) : RD f L n d e more (b + 1) := by
  refine ⟨?_, .inr ?_⟩
  · rcases k with k | k
    · exact .inl (k.up (val_half f L (b + 1)).le)
    · exact .inl (k.up d0 (val_half f L (b + 1)))
  · rw [Nat.add_sub_cancel]
    exact h
/-- A float's value is rounded to it; the half way place to the even one of both. -/
theorem RD_val {f : Nat} {L : Int} {n d : Nat} {e : Int} {b : Nat} (more : Bool) (d0 : 0 < d) (h : vE n d e (mt f b) (xp f L b)) : RD f L n d e more b :=
  RD_of_ge d0 (fun k => k.not_vE h) (.inl (h.up d0 (val_half f L b)))
theorem RD_half {f : Nat} {L : Int} {n d : Nat} {e : Int} {b : Nat} (d0 : 0 < d) (h : vE n d e (hM f b) (hX f L b)) : RD f L n d e false (if b % 2 = 0 then b else b + 1) := by
  by_cases c : b % 2 = 0
  · rw [if_pos c]
    refine RD_of_ge d0 (fun k => ?_) (.inr ⟨h, c, rfl⟩)
    exact (k.up (val_half f L b).le).not_vE h
  · rw [if_neg c]
    refine RD_of_le d0 ?_ (.inl (h.up d0 (half_val f L b)))
    rintro (u | ⟨_, u, _⟩)
    · exact u.not_vE h
    · exact c u
/-- What a quotient and what is left are rounded to. -/
def rU (more : Bool) (q r y : Nat) : Bool := decide (y < 2 * r ∨ (2 * r = y ∧ (more = true ∨ q % 2 = 1)))
def rQ (more : Bool) (q r y : Nat) : Nat := q + (if rU more q r y then 1 else 0)
theorem quo_RD {f : Nat} (hf : 0 < f) {L : Int} {n d y q r : Nat} {e l : Int} (more : Bool) (d0 : 0 < d) (hr : r < y) (g : Good f L q l) (h : Eqv (n * y) e ((q * y + r) * d) l) : RD f L n d e more (ly f L (rQ more q r y) l) := by
  have y0 : 0 < y := by omega
  obtain ⟨e1, e2⟩ := ly_parts g
  obtain ⟨i1, i2⟩ := quo_half d0 y0 h
  have ev2 := ly_even hf L q l
  have up : Up f L n d e more (ly f L q l) ↔ rU more q r y = false := by
    unfold Up hM hX
    rw [e1, e2, i1, i2, ev2]
    unfold rU
    rw [decide_eq_false_iff_not]
    have c : q % 2 = 0 ∨ q % 2 = 1 := by omega
    cases more
    · simp
      omega
    · simp
      omega
  unfold rQ
  by_cases u : rU more q r y = true
  · rw [if_pos u, ly_succ]
    refine RD_of_le d0 (fun x => by rw [up.1 x] at u; cases u) (.inl ?_)
    have k : vL n d e (q + 1) l := by
      rw [vL_iff (m := q + 1) (x := l) d0 y0 h]
      refine ⟨l, Int.le_refl _, Int.le_refl _, ?_⟩
      rw [ev_self, ev_self, Nat.mul_add, Nat.mul_one, Nat.mul_comm y q]
      omega
    have s := mt_succ f L (ly f L q l)
    rw [e1, e2] at s
    exact k.up s.lE
  · rw [if_neg u, Nat.add_zero]
    refine RD_of_ge d0 ?_ (up.2 (Bool.eq_false_iff.2 u))
    rw [e1, e2]
    intro x
    rw [vL_iff (m := q) (x := l) d0 y0 h] at x
    have := x.at l (Int.le_refl _) (Int.le_refl _)
    rw [ev_self, ev_self, Nat.mul_comm y q] at this
    omega
/-- The float's bits with an end: beyond it the infinity's. -/
theorem pk_ly {f T : Nat} {L : Int} (hT : 2 ≤ T) {Q : Nat} {l : Int} (hQ : Q ≠ 0) (h1 : Q ≤ 2 ^ (f + 1)) (h2 : L ≤ l) (h3 : 2 ^ f ≤ Q ∨ l = L) : pk f (T : Int) L Q l = if ly f L Q l < T * 2 ^ f then some (ly f L Q l) else none := by
  have p := Nat.two_pow_pos f
  have fits : ∀ {M : Nat} {E : Int}, Good f L M E → ((¬ L + (T : Int) - 2 < E) ↔ ly f L M E < T * 2 ^ f) := by
    rintro M E ⟨a, b, c⟩
    rw [Nat.pow_succ] at a
    unfold ly
    obtain ⟨j, hj⟩ : ∃ j, j = (E - L).toNat := ⟨_, rfl⟩
    rw [← hj]
    constructor
    · intro x
      have : (j + 2) * 2 ^ f ≤ T * 2 ^ f := Nat.mul_le_mul_right _ (by omega)
      rw [Nat.add_mul] at this
      omega
    · intro x y
      have c' : 2 ^ f ≤ M := by
        rcases c with c | c
        · exact c
        · omega
      have : T * 2 ^ f ≤ (j + 1) * 2 ^ f := Nat.mul_le_mul_right _ (by omega)
      rw [Nat.succ_mul] at this
      omega
  by_cases k : Q < 2 ^ (f + 1)
  · have g : Good f L Q l := ⟨k, h2, h3⟩
    rw [pk_fin hQ g.fin, out_ly (by omega) g]
    by_cases c : L + (T : Int) - 2 < l
    · rw [if_pos c, if_neg (fun x => ((fits g).2 x) c)]
    · rw [if_neg c, if_pos ((fits g).1 c)]
  · have e : Q = 2 ^ (f + 1) := by omega
    have g : Good f L (2 ^ f) (l + 1) := ⟨Nat.pow_lt_pow_right (by decide) (by omega), by omega, .inl (Nat.le_refl _)⟩
    have q : Eqv Q l (2 ^ f) (l + 1) := by
      have := Eqv.half (m := 2 ^ f * 2) l (Nat.mul_mod_left _ _)
      rw [Nat.mul_div_cancel _ (by decide), ← Nat.pow_succ, ← e] at this
      exact this
    rw [pk_same hQ q, pk_fin (q.pos hQ) g.fin, out_ly (by omega) g, e, ← ly_top_f h2]
    by_cases c : L + (T : Int) - 2 < l + 1
    · rw [if_pos c, if_neg (fun x => ((fits g).2 x) c)]
    · rw [if_neg c, if_pos ((fits g).1 c)]
/-- The place of the first bit: n / d is from 2^E on and below 2^(E+1). -/
def Fst (n d : Nat) (E : Int) : Prop := ¬ vL n d 0 1 E ∧ vL n d 0 1 (E + 1)
theorem ev_one (K x : Int) : ev K 1 x = 2 ^ (x - K).toNat := by unfold ev; rw [Nat.one_mul]
theorem fst_hi {n d : Nat} (d0 : d ≠ 0) : vL n d 0 1 ((ln n : Int) - (ln d : Int) + 1) := by
  have a := ln_lt n
  have b := ln_le d0
  have p := ln_pos d0
  refine ⟨-(ln d : Int), by omega, by omega, ?_⟩
  rw [ev_one]
  unfold ev
  rw [show ((ln n : Int) - (ln d : Int) + 1 - -(ln d : Int)).toNat = ln n + 1 by omega, show (0 - -(ln d : Int)).toNat = ln d by omega]
  calc n * 2 ^ ln d < 2 ^ ln n * 2 ^ ln d := Nat.mul_lt_mul_of_pos_right a (Nat.two_pow_pos _)
    _ = 2 ^ (ln d - 1) * 2 ^ (ln n + 1) := by rw [← Nat.pow_add, ← Nat.pow_add, show ln n + ln d = ln d - 1 + (ln n + 1) by omega]
    _ ≤ d * 2 ^ (ln n + 1) := Nat.mul_le_mul_right _ b
theorem fst_lo {n d : Nat} (n0 : n ≠ 0) : ¬ vL n d 0 1 ((ln n : Int) - (ln d : Int) - 1) := by
  intro k
  have a := ln_lt d
  have b := ln_le n0
  have p := ln_pos n0
  have q := k.at (-(ln d : Int) - 1) (by omega) (by omega)
  rw [ev_one] at q
  unfold ev at q
  rw [show ((ln n : Int) - (ln d : Int) - 1 - (-(ln d : Int) - 1)).toNat = ln n by omega, show (0 - (-(ln d : Int) - 1)).toNat = ln d + 1 by omega] at q
  have r : 2 ^ ln d * 2 ^ ln n ≤ n * 2 ^ (ln d + 1) := by
    calc 2 ^ ln d * 2 ^ ln n = 2 ^ (ln n - 1) * 2 ^ (ln d + 1) := by rw [← Nat.pow_add, ← Nat.pow_add, show ln d + ln n = ln n - 1 + (ln d + 1) by omega]
      _ ≤ n * 2 ^ (ln d + 1) := Nat.mul_le_mul_right _ b
  have s : d * 2 ^ ln n ≤ 2 ^ ln d * 2 ^ ln n := Nat.mul_le_mul_right _ (Nat.le_of_lt a)
  omega
theorem fst_of {n d : Nat} (n0 : n ≠ 0) (d0 : d ≠ 0) : (vL n d 0 1 ((ln n : Int) - (ln d : Int)) → Fst n d ((ln n : Int) - (ln d : Int) - 1)) ∧ (¬ vL n d 0 1 ((ln n : Int) - (ln d : Int)) → Fst n d ((ln n : Int) - (ln d : Int))) := by
  refine ⟨fun k => ⟨fst_lo n0, ?_⟩, fun k => ⟨k, fst_hi d0⟩⟩
  rw [show (ln n : Int) - (ln d : Int) - 1 + 1 = (ln n : Int) - (ln d : Int) by omega]
  exact k
/-- The quotient at the last bit's place is a mantissa in its place. -/
theorem quo_good {f : Nat} {L : Int} {n d : Nat} {e E l : Int} (d0 : d ≠ 0) (h : Fst n d E) (hl : l = max (E + e - f) L) : Good f L (n * 2 ^ (e - l).toNat / (d * 2 ^ (l - e).toNat)) l ∧ Eqv (n * (d * 2 ^ (l - e).toNat)) e (n * 2 ^ (e - l).toNat * d) l := by
  have dp : 0 < d := Nat.pos_of_ne_zero d0
  have yp : 0 < d * 2 ^ (l - e).toNat := Nat.mul_pos dp (Nat.two_pow_pos _)
  have lo := fun x => h.1 x
  have hi := h.2
  have key : Eqv (n * (d * 2 ^ (l - e).toNat)) e (n * 2 ^ (e - l).toNat * d) l := by
    rcases Int.le_total e l with c | c
    · refine Eqv.of_dn c ?_
      rw [show (e - l).toNat = 0 by omega, Nat.pow_zero, Nat.mul_one, ← Nat.mul_assoc]
    · refine Eqv.symm (Eqv.of_dn c ?_)
      rw [show (l - e).toNat = 0 by omega, Nat.pow_zero, Nat.mul_one]
      rw [Nat.mul_right_comm]
  -- the number against 2^x, at the two ends
  have sh : ∀ k : Nat, ∀ x : Int, x = l + k - e → (vL n d 0 1 x ↔ n * 2 ^ (e - l).toNat < d * 2 ^ (l - e).toNat * 2 ^ k) := by
    intro k x hx
    have s := vL_iff (n := n) (d := d) (n' := n * 2 ^ (e - l).toNat) (d' := d * 2 ^ (l - e).toNat) (m := 2 ^ k) (e := e) (e' := l) (x := l) dp yp key
    have t : vL n d 0 1 x ↔ vL n d e (2 ^ k) l := by
      constructor
      · intro u
        have q := u.at (min (min 0 x) (min (l - e) (-e))) (by omega) (by omega)
        obtain ⟨K, hK⟩ : ∃ K, K = min (min 0 x) (min (l - e) (-e)) := ⟨_, rfl⟩
        rw [← hK] at q
        refine ⟨K + e, by omega, by omega, ?_⟩
        rw [ev_one] at q
        unfold ev at q ⊢
        rw [show (e - (K + e)).toNat = (0 - K).toNat by omega, ← Nat.pow_add, show k + (l - (K + e)).toNat = (x - K).toNat by omega]
        exact q
      · intro u
        have q := u.at (min (min 0 x) (min (l - e) (-e)) + e) (by omega) (by omega)
        obtain ⟨K, hK⟩ : ∃ K, K = min (min 0 x) (min (l - e) (-e)) := ⟨_, rfl⟩
        rw [← hK] at q
        refine ⟨K, by omega, by omega, ?_⟩
        rw [ev_one]
        unfold ev at q ⊢
        rw [show (e - (K + e)).toNat = (0 - K).toNat by omega, ← Nat.pow_add, show k + (l - (K + e)).toNat = (x - K).toNat by omega] at q
        exact q
    rw [t, s]
    constructor
    · intro u
      have := u.at l (Int.le_refl _) (Int.le_refl _)
      rw [ev_self, ev_self] at this
      exact this
    · intro u
      exact ⟨l, Int.le_refl _, Int.le_refl _, by rw [ev_self, ev_self]; exact u⟩
  refine ⟨⟨?_, by omega, ?_⟩, key⟩
  · rw [Nat.div_lt_iff_lt_mul yp, Nat.mul_comm (2 ^ (f + 1))]
    have up : vL n d 0 1 (l + (f + 1 : Nat) - e) := by
      refine hi.up ⟨min (E + 1) (l + (f + 1 : Nat) - e), by omega, by omega, ?_⟩
      rw [ev_one, ev_one]
      exact Nat.pow_le_pow_right (by decide) (by omega)
    exact (sh (f + 1) _ rfl).1 up
  · by_cases c : l = L
    · exact .inr c
    · left
      rw [Nat.le_div_iff_mul_le yp, Nat.mul_comm (2 ^ f)]
      have hE : E = l + (f : Nat) - e := by omega
      exact Nat.not_lt.1 (fun x => lo ((sh f E hE).2 x))

end Go.Proofs.YtkmnkogbafhfdaaDoor
