/-
  How a number is put into a float's place: by how many bits it goes up or down, what is refused, and what comes: it is the float of the same value; rounded: it is the nearest. No program in sight.
-/
import Derived.Test.YtkmnkogbafhfdaaDoorBtS
namespace Go.Proofs.YtkmnkogbafhfdaaDoor

/-- By how many bits a mantissa is to go up. -/
def rm (f : Nat) (L : Int) (m : Nat) (e : Int) : Int := min ((f : Int) + 1 - (ln m : Int)) (e - L)
/-- The mantissa in its place. -/
def pl (m : Nat) (u : Int) : Nat := m * 2 ^ u.toNat / 2 ^ (-u).toNat
/-- The bits of a mantissa in its place, with its exponent. -/
def ly (f : Nat) (L : Int) (M : Nat) (E : Int) : Nat := (E - L).toNat * 2 ^ f + M

theorem out_ly {f : Nat} {t L : Int} (ht : 2 ≤ t) {M : Nat} {E : Int} (g : Good f L M E) : out f t L M E = if L + t - 2 < E then none else some (ly f L M E) := by
  obtain ⟨a, b, c⟩ := g
  unfold out ly
  have p := Nat.two_pow_pos f
  rw [Nat.pow_succ] at a
  by_cases q : L + t - 2 < E
  · rw [if_pos q, if_pos]
    right; right
    refine ⟨?_, by omega⟩
    rcases c with c | c
    · exact c
    · omega
  · rw [if_neg q, if_neg]
    · by_cases k : M < 2 ^ f
      · rw [if_pos k]
        have : E = L := by
          rcases c with c | c
          · omega
          · exact c
        subst this
        simp
      · rw [if_neg k]
        congr 1
        have : (E - L + 1).toNat = (E - L).toNat + 1 := by omega
        rw [this, Nat.succ_mul]
        omega
    · rw [Nat.pow_succ]
      rintro (x | x | ⟨x, y⟩) <;> omega

/-- Too great by the exponent alone. -/
theorem pk_high {f : Nat} {t L : Int} (ht : 2 ≤ t) {m : Nat} {e : Int} (m0 : m ≠ 0) (h : L + t - 2 + f < e) : pk f t L m e = none := by
  obtain ⟨M, E, q, fin, r⟩ := PK.ex f t L e m0
  rw [r]
  rcases fin.cases with g | ⟨_, b⟩
  · rw [out_ly ht g, if_pos]
    obtain ⟨a1, a2, a3⟩ := g
    by_cases c : E ≤ e
    · have d := q.up c
      have : 2 ^ (e - E).toNat ≤ M := by
        rw [d]
        exact Nat.le_mul_of_pos_left _ (Nat.pos_of_ne_zero m0)
      have : 2 ^ (e - E).toNat < 2 ^ (f + 1) := Nat.lt_of_le_of_lt this a1
      have := (Nat.pow_lt_pow_iff_right (show 1 < 2 by decide)).1 this
      omega
    · omega
  · exact out_bad b
/-- A bit would be lost. -/
theorem pk_low {f : Nat} {t L : Int} {m j z : Nat} {e : Int} (hm : m = 2 ^ z * (2 * j + 1)) (h : (z : Int) < -(rm f L m e)) : pk f t L m e = none := by
  have m0 : m ≠ 0 := by
    rw [hm]
    exact Nat.ne_of_gt (Nat.mul_pos (Nat.two_pow_pos z) (by omega))
  have o0 : 2 * j + 1 ≠ 0 := by omega
  have lz : ln m = ln (2 * j + 1) + z := by rw [hm, Nat.mul_comm]; exact ln_shl o0 z
  have q : Eqv m e (2 * j + 1) (e + z) := by
    refine Eqv.of_dn (by omega) ?_
    rw [hm, Nat.mul_comm, show (e + (z : Int) - e).toNat = z by omega]
  have bad : 2 ^ (f + 1) ≤ 2 * j + 1 ∨ e + z < L := by
    unfold rm at h
    by_cases c : e + z < L
    · exact .inr c
    · left
      have : ¬ ln (2 * j + 1) ≤ f + 1 := by omega
      rw [ln_iff] at this
      omega
  have fin : Fin2 f L (2 * j + 1) (e + z) := by
    refine ⟨?_, .inl (by omega)⟩
    rintro ⟨x, y⟩
    rcases bad with b | b
    · rw [Nat.pow_succ] at b
      omega
    · omega
  rw [pk_same m0 q, pk_fin o0 fin, out_bad bad]
/-- It fits: so it is shifted into its place. -/
theorem pl_ok {f : Nat} {L : Int} {m j z : Nat} {e : Int} (hm : m = 2 ^ z * (2 * j + 1)) (h : ¬ (z : Int) < -(rm f L m e)) : Good f L (pl m (rm f L m e)) (e - rm f L m e) ∧ Eqv m e (pl m (rm f L m e)) (e - rm f L m e) ∧ m * 2 ^ (rm f L m e).toNat < 2 ^ max (ln m) (f + 1) := by
  have m0 : m ≠ 0 := by
    rw [hm]
    exact Nat.ne_of_gt (Nat.mul_pos (Nat.two_pow_pos z) (by omega))
  have o0 : 2 * j + 1 ≠ 0 := by omega
  have lz : ln m = ln (2 * j + 1) + z := by rw [hm, Nat.mul_comm]; exact ln_shl o0 z
  obtain ⟨u, hu⟩ : ∃ u, u = rm f L m e := ⟨_, rfl⟩
  rw [← hu] at h ⊢
  unfold rm at hu
  by_cases c : 0 ≤ u
  · obtain ⟨k, rfl⟩ : ∃ k : Nat, u = (k : Int) := ⟨u.toNat, by omega⟩
    have e1 : pl m (k : Int) = m * 2 ^ k := by
      unfold pl
      rw [show ((k : Int)).toNat = k by omega, show (-(k : Int)).toNat = 0 by omega, Nat.pow_zero, Nat.div_one]
    have l1 : ln (m * 2 ^ k) = ln m + k := ln_shl m0 k
    rw [e1, show ((k : Int)).toNat = k by omega]
    refine ⟨⟨(ln_iff _ _).1 (by omega), by omega, ?_⟩, Eqv.shl m e k, (ln_iff _ _).1 (by omega)⟩
    by_cases d : (k : Int) = e - L
    · right; omega
    · left
      have x0 : m * 2 ^ k ≠ 0 := Nat.ne_of_gt (Nat.mul_pos (Nat.pos_of_ne_zero m0) (Nat.two_pow_pos k))
      have := ln_le x0
      rw [l1, show ln m + k - 1 = f by omega] at this
      exact this
  · obtain ⟨k, rfl⟩ : ∃ k : Nat, u = -(k : Int) := ⟨(-u).toNat, by omega⟩
    have hk : k ≤ z := by omega
    obtain ⟨i, rfl⟩ : ∃ i, z = k + i := ⟨z - k, by omega⟩
    have e0 : m = 2 ^ i * (2 * j + 1) * 2 ^ k := by rw [hm, Nat.pow_add]; grind
    have e1 : pl m (-(k : Int)) = 2 ^ i * (2 * j + 1) := by
      unfold pl
      rw [show (-(k : Int)).toNat = 0 by omega, show (-(-(k : Int))).toNat = k by omega, Nat.pow_zero, Nat.mul_one, e0, Nat.mul_div_cancel _ (Nat.two_pow_pos k)]
    have l1 : ln (2 ^ i * (2 * j + 1)) = ln (2 * j + 1) + i := by rw [Nat.mul_comm]; exact ln_shl o0 i
    rw [e1, show (-(k : Int)).toNat = 0 by omega, Nat.pow_zero, Nat.mul_one]
    refine ⟨⟨(ln_iff _ _).1 (by omega), by omega, ?_⟩, ?_, (ln_iff _ _).1 (by omega)⟩
    · by_cases d : -(k : Int) = e - L
      · right; omega
      · left
        have x0 : 2 ^ i * (2 * j + 1) ≠ 0 := Nat.ne_of_gt (Nat.mul_pos (Nat.two_pow_pos i) (by omega))
        have := ln_le x0
        rw [l1, show ln (2 * j + 1) + i - 1 = f by omega] at this
        exact this
    · refine Eqv.of_dn (by omega) ?_
      rw [show (e - -(k : Int) - e).toNat = k by omega]
      exact e0
theorem pk_place {f : Nat} {t L : Int} (ht : 2 ≤ t) {m j z : Nat} {e : Int} (hm : m = 2 ^ z * (2 * j + 1)) (h : ¬ (z : Int) < -(rm f L m e)) : pk f t L m e = if L + t - 2 < e - rm f L m e then none else some (ly f L (pl m (rm f L m e)) (e - rm f L m e)) := by
  have m0 : m ≠ 0 := by
    rw [hm]
    exact Nat.ne_of_gt (Nat.mul_pos (Nat.two_pow_pos z) (by omega))
  obtain ⟨a, b, _⟩ := pl_ok hm h
  rw [pk_same m0 b, pk_fin (b.pos m0) a.fin, out_ly ht a]

/-- Rounded: what the program reckons is the nearest float of 32 bits. -/
theorem nw_low {m : Nat} {e : Int} (h : ln m < sN m e) : nw m e = (0, false) := by
  have r : rN m (sN m e) = 0 := by
    obtain ⟨k, hk⟩ : ∃ k, sN m e = k + 1 := ⟨sN m e - 1, by omega⟩
    rw [hk] at h ⊢
    have lt : m < 2 ^ k := (ln_iff m k).1 (by omega)
    have nb : ¬ rB m (k + 1) = true := by
      rw [rB_succ, Nat.div_eq_of_lt lt]
      simp
    unfold rN
    rw [if_neg nb, Nat.div_eq_of_lt (by rw [Nat.pow_succ]; omega)]
  unfold nw
  rw [if_pos r]
theorem rN_le {m s : Nat} : m / 2 ^ s ≤ rN m s ∧ rN m s ≤ m / 2 ^ s + 1 := by
  unfold rN
  split <;> omega
theorem ly_top {p : Int} (h : -149 ≤ p) : ly 23 (-149) (2 ^ 23) (p + 1) = ly 23 (-149) (2 ^ 24) p := by
  unfold ly
  simp only [Nat.reducePow]
  omega
theorem nw_near {m : Nat} {e : Int} (m0 : m ≠ 0) (h : ¬ ln m < sN m e) (h1 : 0 < sN m e) (hr : ln m - 24 = sN m e ∨ e + (sN m e : Int) = -149) :
    nw m e = if 104 < e + (sN m e : Int) then (2139095040, false) else (ly 23 (-149) (rN m (sN m e)) (e + (sN m e : Int)), decide (m % 2 ^ sN m e = 0)) := by
  obtain ⟨s, hs⟩ : ∃ s, s = sN m e := ⟨_, rfl⟩
  rw [← hs] at h h1 hr ⊢
  have ge : (ln m : Int) - 24 ≤ s ∧ -149 - e ≤ s := by
    unfold sN at hs
    omega
  have hq : m / 2 ^ s < 2 ^ 24 := (div_ln m s 24).2 (by omega)
  obtain ⟨r1, r2⟩ := rN_le (m := m) (s := s)
  unfold nw
  rw [← hs]
  by_cases z : rN m s = 0
  · rw [if_pos z]
    have q0 : m / 2 ^ s = 0 := by
      rw [z] at r1
      exact Nat.le_zero.1 r1
    have l := (div_zero_iff m s).1 q0
    have e1 : e + (s : Int) = -149 := by
      have := ln_pos m0
      rcases hr with hr | hr
      · omega
      · exact hr
    have md : m % 2 ^ s = m := Nat.mod_eq_of_lt ((ln_iff m s).1 l)
    rw [e1, if_neg (by decide), z, md]
    unfold ly
    rw [decide_eq_false m0]
    rfl
  · rw [if_neg z]
    have key : pk 23 255 (-149) (rN m s) (e + (s : Int)) = if 104 < e + (s : Int) then none else (if rN m s = 2 ^ 24 ∧ e + (s : Int) = 104 then none else some (ly 23 (-149) (rN m s) (e + (s : Int)))) := by
      by_cases tp : rN m s = 2 ^ 24
      · have q : Eqv (rN m s) (e + (s : Int)) (2 ^ 23) (e + (s : Int) + 1) := by
          rw [tp]
          exact Eqv.half (e + (s : Int)) (by decide)
        have g : Good 23 (-149) (2 ^ 23) (e + (s : Int) + 1) := ⟨by decide, by omega, .inl (Nat.le_refl _)⟩
        rw [pk_same z q, pk_fin (by decide) g.fin, out_ly (by decide) g, tp]
        by_cases c : 104 < e + (s : Int)
        · rw [if_pos (by omega), if_pos c]
        · rw [if_neg c]
          by_cases c2 : e + (s : Int) = 104
          · rw [if_pos (by omega), if_pos ⟨rfl, c2⟩]
          · rw [if_neg (by omega), if_neg (fun x => c2 x.2)]
            rw [ly_top (by omega)]
      · have g : Good 23 (-149) (rN m s) (e + (s : Int)) := by
          refine ⟨by omega, by omega, ?_⟩
          rcases hr with hr | hr
          · left
            have := ln_pos m0
            have : 2 ^ 23 ≤ m / 2 ^ s := (div_ln_le m s 23).2 (by omega)
            omega
          · exact .inr hr
        rw [pk_fin z g.fin, out_ly (by decide) g]
        by_cases c : 104 < e + (s : Int)
        · rw [if_pos (by omega), if_pos c]
        · rw [if_neg (by omega), if_neg c, if_neg (fun x => tp x.1)]
    rw [key]
    by_cases c : 104 < e + (s : Int)
    · rw [if_pos c, if_pos c]
    · rw [if_neg c, if_neg c]
      by_cases d : rN m s = 2 ^ 24 ∧ e + (s : Int) = 104
      · rw [if_pos d]
        obtain ⟨d1, d2⟩ := d
        have nz : m % 2 ^ s ≠ 0 := by
          intro x
          have : ¬ rB m s = true := by
            unfold rB
            rw [decide_eq_true_iff, x]
            have := Nat.two_pow_pos (s - 1)
            omega
          unfold rN at d1
          rw [if_neg this] at d1
          omega
        rw [d1, d2, decide_eq_false nz]
        rfl
      · rw [if_neg d]

end Go.Proofs.YtkmnkogbafhfdaaDoor
