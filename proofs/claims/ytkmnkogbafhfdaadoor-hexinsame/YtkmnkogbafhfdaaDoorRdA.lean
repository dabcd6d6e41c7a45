/-
  Rounding to floats as plain numbers, the answers: the float of a fraction times a power of two, with an end; that it hangs on the number alone, does not fall, and comes back from a float's value; a float's value as a fraction in least terms. No program in sight.
-/
import Derived.Test.YtkmnkogbafhfdaaDoorRdF
namespace Go.Proofs.YtkmnkogbafhfdaaDoor

/-- Is n / d below 2^x? -/
def belB (n d : Nat) (x : Int) : Bool := decide (n * 2 ^ (-x).toNat < d * 2 ^ x.toNat)
theorem vL_one (n d : Nat) (x : Int) : vL n d 0 1 x ↔ belB n d x = true := by
  unfold belB
  rw [decide_eq_true_iff]
  have e1 : ev (min 0 x) n 0 = n * 2 ^ (-x).toNat := by unfold ev; rw [show (0 - min 0 x).toNat = (-x).toNat by omega]
  have e2 : ev (min 0 x) 1 x = 2 ^ x.toNat := by rw [ev_one, show (x - min 0 x).toNat = x.toNat by omega]
  constructor
  · intro h
    have := h.at (min 0 x) (by omega) (by omega)
    rw [e1, e2] at this
    exact this
  · intro h
    exact ⟨min 0 x, by omega, by omega, by rw [e1, e2]; exact h⟩
/-- The place of the first bit of n / d; that of the last bit. -/
def fE (n d : Nat) : Int := if belB n d ((ln n : Int) - (ln d : Int)) then (ln n : Int) - (ln d : Int) - 1 else (ln n : Int) - (ln d : Int)
def lE' (f : Nat) (L : Int) (n d : Nat) (e : Int) : Int := max (fE n d + e - f) L
theorem fE_fst {n d : Nat} (n0 : n ≠ 0) (d0 : d ≠ 0) : Fst n d (fE n d) := by
  obtain ⟨a, b⟩ := fst_of n0 d0
  unfold fE
  by_cases c : belB n d ((ln n : Int) - (ln d : Int)) = true
  · rw [if_pos c]; exact a ((vL_one _ _ _).2 c)
  · rw [if_neg c]; exact b (fun x => c ((vL_one _ _ _).1 x))
/-- The numerator and the denominator at the last bit's place. -/
def rX (n : Nat) (e l : Int) : Nat := n * 2 ^ (e - l).toNat
def rY (d : Nat) (e l : Int) : Nat := d * 2 ^ (l - e).toNat
/-- The rounded mantissa, and the float's bits without an end. -/
def rdM (f : Nat) (L : Int) (n d : Nat) (e : Int) (more : Bool) : Nat :=
  rQ more (rX n e (lE' f L n d e) / rY d e (lE' f L n d e)) (rX n e (lE' f L n d e) % rY d e (lE' f L n d e)) (rY d e (lE' f L n d e))
def rdN (f : Nat) (L : Int) (n d : Nat) (e : Int) (more : Bool) : Nat := ly f L (rdM f L n d e more) (lE' f L n d e)
theorem rdM_good {f : Nat} {L : Int} {n d : Nat} (e : Int) (n0 : n ≠ 0) (d0 : d ≠ 0) : Good f L (rX n e (lE' f L n d e) / rY d e (lE' f L n d e)) (lE' f L n d e) := (quo_good d0 (fE_fst n0 d0) rfl).1
theorem rdN_RD {f : Nat} (hf : 0 < f) {L : Int} {n d : Nat} {e : Int} (more : Bool) (n0 : n ≠ 0) (d0 : d ≠ 0) : RD f L n d e more (rdN f L n d e more) := by
  obtain ⟨g, h⟩ := quo_good (f := f) (L := L) (e := e) d0 (fE_fst n0 d0) rfl
  have yp : 0 < rY d e (lE' f L n d e) := Nat.mul_pos (Nat.pos_of_ne_zero d0) (Nat.two_pow_pos _)
  refine quo_RD hf more (Nat.pos_of_ne_zero d0) (Nat.mod_lt _ yp) g ?_
  rw [Nat.div_add_mod']
  exact h
theorem rdN_eq {f : Nat} (hf : 0 < f) {L : Int} {n d : Nat} {e : Int} {more : Bool} {b : Nat} (n0 : n ≠ 0) (d0 : d ≠ 0) (h : RD f L n d e more b) : rdN f L n d e more = b := RD.uniq (Nat.pos_of_ne_zero d0) (rdN_RD hf more n0 d0) h
theorem rdM_le {f : Nat} {L : Int} {n d : Nat} {e : Int} (more : Bool) (n0 : n ≠ 0) (d0 : d ≠ 0) : rdM f L n d e more ≤ 2 ^ (f + 1) ∧ (2 ^ f ≤ rdM f L n d e more ∨ lE' f L n d e = L) ∧ L ≤ lE' f L n d e := by
  obtain ⟨a, b, c⟩ := rdM_good (f := f) (L := L) e n0 d0
  unfold rdM rQ
  refine ⟨by split <;> omega, ?_, b⟩
  rcases c with c | c
  · left; split <;> omega
  · exact .inr c
/-- What the packed rounded mantissa is. -/
theorem rdM_pk {f T : Nat} {L : Int} (hT : 2 ≤ T) {n d : Nat} {e : Int} (more : Bool) (n0 : n ≠ 0) (d0 : d ≠ 0) (h : rdM f L n d e more ≠ 0) : pk f (T : Int) L (rdM f L n d e more) (lE' f L n d e) = if rdN f L n d e more < T * 2 ^ f then some (rdN f L n d e more) else none := by
  obtain ⟨a, b, c⟩ := rdM_le (f := f) (L := L) (e := e) more n0 d0
  exact pk_ly hT h a c b
theorem rdN_zero {f T : Nat} {L : Int} {n d : Nat} {e : Int} {more : Bool} (hT : 2 ≤ T) (n0 : n ≠ 0) (d0 : d ≠ 0) (h : rdM f L n d e more = 0) : rdN f L n d e more = 0 ∧ 0 < T * 2 ^ f := by
  obtain ⟨a, b, c⟩ := rdM_le (f := f) (L := L) (e := e) more n0 d0
  have p := Nat.two_pow_pos f
  refine ⟨?_, Nat.mul_pos (by omega) p⟩
  unfold rdN ly
  rw [h] at b ⊢
  rcases b with b | b
  · omega
  · rw [b, Int.sub_self]; simp
/-- The answer: the bits without a sign, and whether it is beyond. -/
def rdA (f T : Nat) (L : Int) (n d : Nat) (e : Int) (more : Bool) : Nat × Bool :=
  if n = 0 then (0, false) else if rdN f L n d e more < T * 2 ^ f then (rdN f L n d e more, false) else (T * 2 ^ f, true)
theorem rdA_of {f T : Nat} (hf : 0 < f) {L : Int} {n d : Nat} {e : Int} {more : Bool} {b : Nat} (n0 : n ≠ 0) (d0 : d ≠ 0) (h : RD f L n d e more b) : rdA f T L n d e more = if b < T * 2 ^ f then (b, false) else (T * 2 ^ f, true) := by
  unfold rdA
  rw [if_neg n0, rdN_eq hf n0 d0 h]
theorem rdA_same {f T : Nat} (hf : 0 < f) {L : Int} {n d n' d' : Nat} {e e' : Int} {more : Bool} (d0 : d ≠ 0) (d0' : d' ≠ 0) (h : Eqv (n * d') e (n' * d) e') : rdA f T L n d e more = rdA f T L n' d' e' more := by
  by_cases z : n = 0
  · have z' : n' = 0 := by
      by_cases k : n' = 0
      · exact k
      · exfalso
        refine h.symm.pos (Nat.mul_ne_zero k d0) ?_
        rw [z, Nat.zero_mul]
    unfold rdA
    rw [if_pos z, if_pos z']
  · have z' : n' ≠ 0 := by
      rintro rfl
      refine h.pos (Nat.mul_ne_zero z d0') ?_
      rw [Nat.zero_mul]
    have r := rdN_RD (f := f) (L := L) (e := e') hf more z' d0'
    rw [rdA_of (e := e') hf z' d0' r]
    exact rdA_of hf z d0 ((RD_iff (Nat.pos_of_ne_zero d0) (Nat.pos_of_ne_zero d0') h _).2 r)
theorem rdA_mono {f T : Nat} (hf : 0 < f) {L : Int} {n n' d : Nat} {e : Int} {more : Bool} (d0 : d ≠ 0) (h : n ≤ n') : (rdA f T L n d e more).1 ≤ (rdA f T L n' d e more).1 := by
  by_cases z : n = 0
  · unfold rdA
    rw [if_pos z]
    exact Nat.zero_le _
  · have z' : n' ≠ 0 := by omega
    have m := RD.mono (Nat.pos_of_ne_zero d0) h (rdN_RD (f := f) (L := L) (e := e) hf more z d0) (rdN_RD (f := f) (L := L) (e := e) hf more z' d0)
    unfold rdA
    rw [if_neg z, if_neg z']
    split <;> split <;> simp only <;> omega
theorem rdA_end {f T : Nat} {L : Int} {n d : Nat} {e : Int} {more : Bool} (hT : 0 < T) : (rdA f T L n d e more).1 ≤ T * 2 ^ f ∧ ((rdA f T L n d e more).2 = true ↔ (rdA f T L n d e more).1 = T * 2 ^ f) := by
  have p : 0 < T * 2 ^ f := Nat.mul_pos hT (Nat.two_pow_pos f)
  unfold rdA
  split
  · refine ⟨Nat.zero_le _, ?_⟩
    simp only
    constructor
    · intro x; cases x
    · intro x; omega
  · split
    · rename_i k
      refine ⟨Nat.le_of_lt k, ?_⟩
      simp only
      constructor
      · intro x; cases x
      · intro x; omega
    · exact ⟨Nat.le_refl _, ⟨fun _ => rfl, fun _ => rfl⟩⟩
/-- Far below, far above. -/
theorem rdA_low {f T : Nat} (hf : 0 < f) (hT : 0 < T) {L : Int} {n d N : Nat} {e : Int} (more : Bool) (d0 : d ≠ 0) (hn : n < 2 ^ N) (h : e + N ≤ L - 1) : rdA f T L n d e more = (0, false) := by
  by_cases z : n = 0
  · unfold rdA; rw [if_pos z]
  · have p : 0 < T * 2 ^ f := Nat.mul_pos hT (Nat.two_pow_pos f)
    have m0 : mt f 0 = 0 := by unfold mt; rw [Nat.zero_div]; rfl
    have x0 : xp f L 0 = L := by unfold xp; rw [Nat.zero_div]; rfl
    have u : Up f L n d e more 0 := by
      left
      unfold hM hX
      rw [m0, x0]
      refine ⟨e, Int.le_refl _, by omega, ?_⟩
      rw [ev_self, show 2 * 0 + 1 = 1 from rfl, ev_one]
      have a : 2 ^ N ≤ 2 ^ (L - 1 - e).toNat := Nat.pow_le_pow_right (by decide) (by omega)
      have b := Nat.le_mul_of_pos_left (2 ^ (L - 1 - e).toNat) (Nat.pos_of_ne_zero d0)
      omega
    rw [rdA_of hf z d0 ⟨u, .inl rfl⟩, if_pos p]
theorem rdA_high {f T : Nat} (hf : 0 < f) (hT : 1 ≤ T) {L : Int} {n d N : Nat} {e : Int} (more : Bool) (n0 : n ≠ 0) (d0 : d ≠ 0) (hd : d < 2 ^ N) (h : (f : Int) + L + T - 1 + N ≤ e) : rdA f T L n d e more = (T * 2 ^ f, true) := by
  have p : 0 < T * 2 ^ f := Nat.mul_pos hT (Nat.two_pow_pos f)
  have pf := Nat.two_pow_pos f
  have r := rdN_RD (f := f) (L := L) (e := e) hf more n0 d0
  rw [rdA_of hf n0 d0 r, if_neg]
  intro c
  have k := r.1.mono (Nat.pos_of_ne_zero d0) (show rdN f L n d e more ≤ T * 2 ^ f - 1 by omega)
  have hv := half_val f L (T * 2 ^ f - 1)
  rw [show T * 2 ^ f - 1 + 1 = T * 2 ^ f by omega] at hv
  have v : vL n d e (mt f (T * 2 ^ f)) (xp f L (T * 2 ^ f)) := by
    rcases k with k | ⟨k, _, _⟩
    · exact k.up hv.le
    · exact k.up (Nat.pos_of_ne_zero d0) hv
  have dv : T * 2 ^ f / 2 ^ f = T := Nat.mul_div_cancel _ pf
  have md : T * 2 ^ f % 2 ^ f = 0 := Nat.mul_mod_left _ _
  have e1 : mt f (T * 2 ^ f) = 2 ^ f := by unfold mt; rw [dv, md, if_neg (by omega), Nat.zero_add]
  have e2 : xp f L (T * 2 ^ f) = L + T - 1 := by unfold xp; rw [dv, if_neg (by omega)]
  rw [e1, e2] at v
  have q := v.at (L + T - 1) (by omega) (Int.le_refl _)
  rw [ev_self] at q
  unfold ev at q
  have a : 2 ^ (f + N) ≤ 2 ^ (e - (L + T - 1)).toNat := Nat.pow_le_pow_right (by decide) (by omega)
  have b := Nat.le_mul_of_pos_left (2 ^ (e - (L + T - 1)).toNat) (Nat.pos_of_ne_zero n0)
  have c2 : d * 2 ^ f ≤ 2 ^ N * 2 ^ f := Nat.mul_le_mul_right _ (Nat.le_of_lt hd)
  rw [← Nat.pow_add, Nat.add_comm] at c2
  omega

end Go.Proofs.YtkmnkogbafhfdaaDoor
