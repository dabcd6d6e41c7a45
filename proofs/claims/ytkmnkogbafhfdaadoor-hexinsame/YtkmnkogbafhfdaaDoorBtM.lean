/-
  Floats by their bits, as plain numbers: when two products of a number and a power of two are one, which float such a product is, and the float of 32 bits nearest to it: no program in sight.
-/
namespace Go.Proofs.YtkmnkogbafhfdaaDoor

/-- m * 2^e, counted in units of 2^K. -/
def ev (K : Int) (m : Nat) (e : Int) : Nat := m * 2 ^ (e - K).toNat
theorem ev_at {K' K e : Int} (m : Nat) (h : K' ≤ K) (h2 : K ≤ e) : ev K' m e = ev K m e * 2 ^ (K - K').toNat := by
  unfold ev
  rw [Nat.mul_assoc, ← Nat.pow_add]
  have : (e - K').toNat = (e - K).toNat + (K - K').toNat := by omega
  rw [this]
/-- m * 2^e and M * 2^E are one number. -/
def Eqv (m : Nat) (e : Int) (M : Nat) (E : Int) : Prop := ∃ K, K ≤ e ∧ K ≤ E ∧ ev K m e = ev K M E
theorem Eqv.all {m M : Nat} {e E : Int} (h : Eqv m e M E) (K' : Int) (h1 : K' ≤ e) (h2 : K' ≤ E) : ev K' m e = ev K' M E := by
  obtain ⟨K, a, b, q⟩ := h
  rcases Int.le_total K' K with c | c
  · rw [ev_at m c a, ev_at M c b, q]
  · exact Nat.eq_of_mul_eq_mul_right (Nat.two_pow_pos (K' - K).toNat) (by rw [← ev_at m c h1, ← ev_at M c h2, q])
theorem Eqv.rfl' (m : Nat) (e : Int) : Eqv m e m e := ⟨e, Int.le_refl e, Int.le_refl e, rfl⟩
theorem Eqv.symm {m M : Nat} {e E : Int} (h : Eqv m e M E) : Eqv M E m e := by
  obtain ⟨K, a, b, q⟩ := h
  exact ⟨K, b, a, q.symm⟩
theorem Eqv.trans {m M M' : Nat} {e E E' : Int} (h : Eqv m e M E) (h' : Eqv M E M' E') : Eqv m e M' E' := by
  refine ⟨min e (min E E'), by omega, by omega, ?_⟩
  rw [h.all _ (by omega) (by omega), h'.all _ (by omega) (by omega)]
theorem Eqv.dn {m M : Nat} {e E : Int} (h : Eqv m e M E) (c : e ≤ E) : m = M * 2 ^ (E - e).toNat := by
  have := h.all e (Int.le_refl e) c
  unfold ev at this
  rw [Int.sub_self] at this
  simpa using this
theorem Eqv.up {m M : Nat} {e E : Int} (h : Eqv m e M E) (c : E ≤ e) : M = m * 2 ^ (e - E).toNat := h.symm.dn c
theorem Eqv.of_dn {m M : Nat} {e E : Int} (c : e ≤ E) (h : m = M * 2 ^ (E - e).toNat) : Eqv m e M E := by
  refine ⟨e, Int.le_refl e, c, ?_⟩
  unfold ev
  rw [Int.sub_self, h]
  simp
theorem Eqv.half {m : Nat} (e : Int) (h : m % 2 = 0) : Eqv m e (m / 2) (e + 1) := by
  refine Eqv.of_dn (by omega) ?_
  rw [show (e + 1 - e).toNat = 1 by omega]
  omega
theorem Eqv.twice (m : Nat) (e : Int) : Eqv m e (m * 2) (e - 1) := by
  refine (Eqv.of_dn (by omega) ?_).symm
  rw [show (e - (e - 1)).toNat = 1 by omega]
theorem Eqv.shl (m : Nat) (e : Int) (k : Nat) : Eqv m e (m * 2 ^ k) (e - k) := by
  refine (Eqv.of_dn (by omega) ?_).symm
  rw [show (e - (e - (k : Int))).toNat = k by omega]
theorem Eqv.pos {m M : Nat} {e E : Int} (h : Eqv m e M E) (c : m ≠ 0) : M ≠ 0 := by
  obtain ⟨K, a, b, q⟩ := h
  unfold ev at q
  intro hM
  rw [hM, Nat.zero_mul] at q
  have := Nat.mul_pos (Nat.pos_of_ne_zero c) (Nat.two_pow_pos (e - K).toNat)
  omega

/-- A state in which no further step is made. -/
def Fin2 (f : Nat) (L : Int) (M : Nat) (E : Int) : Prop := ¬ (M < 2 ^ f ∧ L < E) ∧ (M % 2 = 1 ∨ (M < 2 ^ (f + 1) ∧ L ≤ E))
/-- A mantissa and an exponent as a float's bits have them. -/
def Good (f : Nat) (L : Int) (M : Nat) (E : Int) : Prop := M < 2 ^ (f + 1) ∧ L ≤ E ∧ (2 ^ f ≤ M ∨ E = L)
/-- The bits of such a state. -/
def out (f : Nat) (t : Int) (L : Int) (M : Nat) (E : Int) : Option Nat :=
  if 2 ^ (f + 1) ≤ M ∨ E < L ∨ (2 ^ f ≤ M ∧ t ≤ E - L + 1) then none
  else if M < 2 ^ f then some M else some ((E - L + 1).toNat * 2 ^ f + (M - 2 ^ f))
theorem Good.fin {f : Nat} {L : Int} {M : Nat} {E : Int} (h : Good f L M E) : Fin2 f L M E := by
  obtain ⟨a, b, c⟩ := h
  refine ⟨?_, .inr ⟨a, b⟩⟩
  rintro ⟨x, y⟩
  rcases c with c | c <;> omega
theorem Fin2.cases {f : Nat} {L : Int} {M : Nat} {E : Int} (h : Fin2 f L M E) : Good f L M E ∨ (M % 2 = 1 ∧ (2 ^ (f + 1) ≤ M ∨ E < L)) := by
  obtain ⟨a, b⟩ := h
  by_cases g : M < 2 ^ (f + 1) ∧ L ≤ E
  · refine .inl ⟨g.1, g.2, ?_⟩
    by_cases k : 2 ^ f ≤ M
    · exact .inl k
    · right
      have : ¬ L < E := fun y => a ⟨by omega, y⟩
      omega
  · right
    refine ⟨?_, ?_⟩
    · rcases b with b | b
      · exact b
      · exact absurd b g
    · by_cases k : M < 2 ^ (f + 1)
      · right
        have : ¬ L ≤ E := fun y => g ⟨k, y⟩
        omega
      · left
        omega
theorem two_le_pow {k : Nat} (h : 0 < k) : 2 ≤ 2 ^ k := by
  calc 2 = 2 ^ 1 := rfl
    _ ≤ 2 ^ k := Nat.pow_le_pow_right (by decide) h
theorem Good.uniq_dn {f : Nat} {L : Int} {M M' : Nat} {E E' : Int} (h : Good f L M E) (h' : Good f L M' E') (q : Eqv M E M' E') (c : E ≤ E') : M = M' ∧ E = E' := by
  have d := q.dn c
  rcases Int.lt_or_eq_of_le c with c' | c'
  · exfalso
    obtain ⟨a1, a2, a3⟩ := h
    obtain ⟨b1, b2, b3⟩ := h'
    have hm : 2 ^ f ≤ M' := by
      rcases b3 with b3 | b3
      · exact b3
      · omega
    have := two_le_pow (k := (E' - E).toNat) (by omega)
    have h2 : M' * 2 ≤ M := by
      rw [d]
      exact Nat.mul_le_mul_left M' this
    rw [Nat.pow_succ] at a1
    omega
  · subst c'
    rw [Int.sub_self] at d
    exact ⟨by simpa using d, rfl⟩
theorem Good.uniq {f : Nat} {L : Int} {M M' : Nat} {E E' : Int} (h : Good f L M E) (h' : Good f L M' E') (q : Eqv M E M' E') : M = M' ∧ E = E' := by
  rcases Int.le_total E E' with c | c
  · exact h.uniq_dn h' q c
  · obtain ⟨a, b⟩ := h'.uniq_dn h q.symm c
    exact ⟨a.symm, b.symm⟩
theorem Good.not_bad {f : Nat} {L : Int} {M M' : Nat} {E E' : Int} (h : Good f L M E) (q : Eqv M E M' E') (o : M' % 2 = 1) : ¬ (2 ^ (f + 1) ≤ M' ∨ E' < L) := by
  obtain ⟨a1, a2, a3⟩ := h
  have key : E ≤ E' := by
    rcases Int.le_total E E' with c | c
    · exact c
    · have d := q.up c
      by_cases z : (E - E').toNat = 0
      · omega
      · exfalso
        obtain ⟨k, hk⟩ : ∃ k, (E - E').toNat = k + 1 := ⟨(E - E').toNat - 1, by omega⟩
        rw [hk, Nat.pow_succ, ← Nat.mul_assoc] at d
        omega
  have d := q.dn key
  have : M' ≤ M := by
    rw [d]
    exact Nat.le_mul_of_pos_right M' (Nat.two_pow_pos _)
  omega
theorem out_bad {f : Nat} {t L : Int} {M : Nat} {E : Int} (h : 2 ^ (f + 1) ≤ M ∨ E < L) : out f t L M E = none := by
  unfold out
  rw [if_pos]
  rcases h with h | h
  · exact .inl h
  · exact .inr (.inl h)
theorem out_uniq {f : Nat} {t L : Int} {M M' : Nat} {E E' : Int} (h : Fin2 f L M E) (h' : Fin2 f L M' E') (q : Eqv M E M' E') : out f t L M E = out f t L M' E' := by
  rcases h.cases with g | ⟨o, b⟩
  · rcases h'.cases with g' | ⟨o', b'⟩
    · obtain ⟨a, b⟩ := g.uniq g' q
      rw [a, b]
    · exact absurd b' (g.not_bad q o')
  · rcases h'.cases with g' | ⟨o', b'⟩
    · exact absurd b (g'.not_bad q.symm o)
    · rw [out_bad b, out_bad b']

/-- The float that m * 2^e is, or that none is. -/
def PK (f : Nat) (t L : Int) (m : Nat) (e : Int) (r : Option Nat) : Prop := ∃ M E, Eqv m e M E ∧ Fin2 f L M E ∧ r = out f t L M E
theorem PK.uniq {f : Nat} {t L : Int} {m m' : Nat} {e e' : Int} {r r' : Option Nat} (h : PK f t L m e r) (h' : PK f t L m' e' r') (q : Eqv m e m' e') : r = r' := by
  obtain ⟨M, E, a, b, rfl⟩ := h
  obtain ⟨M', E', a', b', rfl⟩ := h'
  exact out_uniq b b' (a.symm.trans (q.trans a'))
/-- What the second row of steps keeps. -/
def Mid (f : Nat) (L : Int) (M : Nat) (E : Int) : Prop := M % 2 = 1 ∨ (M < 2 ^ (f + 1) ∧ L ≤ E)
theorem Mid.step {f : Nat} {L : Int} {M : Nat} {E : Int} (g : M < 2 ^ f ∧ L < E) : Mid f L (M * 2) (E - 1) := by
  refine .inr ⟨?_, by omega⟩
  rw [Nat.pow_succ]
  omega
/-- The odd part, and its exponent. -/
def nm1 : Nat → Nat → Int → Nat × Int
  | 0, m, e => (m, e)
  | k + 1, m, e => if m % 2 = 1 then (m, e) else nm1 k (m / 2) (e + 1)
theorem nm1_ok : ∀ (k m : Nat) (e : Int), m ≠ 0 → m ≤ k → Eqv m e (nm1 k m e).1 (nm1 k m e).2 ∧ (nm1 k m e).1 % 2 = 1 := by
  intro k
  induction k with
  | zero =>
    intro m e h c
    omega
  | succ k ih =>
    intro m e h c
    by_cases o : m % 2 = 1
    · have q : nm1 (k + 1) m e = (m, e) := if_pos o
      rw [q]
      exact ⟨Eqv.rfl' m e, o⟩
    · have q : nm1 (k + 1) m e = nm1 k (m / 2) (e + 1) := if_neg o
      rw [q]
      obtain ⟨a, b⟩ := ih (m / 2) (e + 1) (by omega) (by omega)
      exact ⟨(Eqv.half e (by omega)).trans a, b⟩
/-- Shifted up, as far as there is room. -/
def nm2 (f : Nat) (L : Int) : Nat → Nat → Int → Nat × Int
  | 0, m, e => (m, e)
  | k + 1, m, e => if m < 2 ^ f ∧ L < e then nm2 f L k (m * 2) (e - 1) else (m, e)
theorem nm2_ok (f : Nat) (L : Int) : ∀ (k m : Nat) (e : Int), (e - L).toNat = k → m ≠ 0 → Mid f L m e → Eqv m e (nm2 f L k m e).1 (nm2 f L k m e).2 ∧ Fin2 f L (nm2 f L k m e).1 (nm2 f L k m e).2 := by
  intro k
  induction k with
  | zero =>
    intro m e hk h c
    have q : nm2 f L 0 m e = (m, e) := rfl
    rw [q]
    refine ⟨Eqv.rfl' m e, ?_, c⟩
    intro y
    have := y.2
    simp only at this
    omega
  | succ k ih =>
    intro m e hk h c
    by_cases g : m < 2 ^ f ∧ L < e
    · have q : nm2 f L (k + 1) m e = nm2 f L k (m * 2) (e - 1) := if_pos g
      rw [q]
      obtain ⟨a, b⟩ := ih (m * 2) (e - 1) (by omega) (by omega) (Mid.step g)
      exact ⟨(Eqv.twice m e).trans a, b⟩
    · have q : nm2 f L (k + 1) m e = (m, e) := if_neg g
      rw [q]
      exact ⟨Eqv.rfl' m e, g, c⟩
/-- The same as a function. -/
def pk (f : Nat) (t L : Int) (m : Nat) (e : Int) : Option Nat :=
  out f t L (nm2 f L ((nm1 m m e).2 - L).toNat (nm1 m m e).1 (nm1 m m e).2).1 (nm2 f L ((nm1 m m e).2 - L).toNat (nm1 m m e).1 (nm1 m m e).2).2
theorem PK.ex (f : Nat) (t L : Int) {m : Nat} (e : Int) (h : m ≠ 0) : PK f t L m e (pk f t L m e) := by
  obtain ⟨a, b⟩ := nm1_ok m m e h (Nat.le_refl m)
  obtain ⟨a', c'⟩ := nm2_ok f L _ (nm1 m m e).1 (nm1 m m e).2 rfl (a.pos h) (.inl b)
  exact ⟨_, _, a.trans a', c', rfl⟩
theorem PK.eq {f : Nat} {t L : Int} {m : Nat} {e : Int} {r : Option Nat} (m0 : m ≠ 0) (h : PK f t L m e r) : pk f t L m e = r :=
  PK.uniq (PK.ex f t L e m0) h (Eqv.rfl' m e)
theorem pk_same {f : Nat} {t L : Int} {m M : Nat} {e E : Int} (h : m ≠ 0) (q : Eqv m e M E) : pk f t L m e = pk f t L M E := by
  exact PK.uniq (PK.ex f t L e h) (PK.ex f t L E (q.pos h)) q
theorem pk_fin {f : Nat} {t L : Int} {M : Nat} {E : Int} (m0 : M ≠ 0) (h : Fin2 f L M E) : pk f t L M E = out f t L M E :=
  PK.eq m0 ⟨M, E, Eqv.rfl' M E, h, rfl⟩

/-- The mantissa that a float's bits without the sign have, and its exponent. -/
def mt (f : Nat) (b : Nat) : Nat := if b / 2 ^ f = 0 then b else b % 2 ^ f + 2 ^ f
def xp (f : Nat) (L : Int) (b : Nat) : Int := if b / 2 ^ f = 0 then L else L + ((b / 2 ^ f : Nat) : Int) - 1
theorem parts_good (f : Nat) (L : Int) (b : Nat) : Good f L (mt f b) (xp f L b) := by
  unfold mt xp
  have p := Nat.two_pow_pos f
  by_cases h : b / 2 ^ f = 0
  · rw [if_pos h, if_pos h]
    have : b < 2 ^ f := by
      rcases Nat.div_eq_zero_iff.1 h with h | h <;> omega
    refine ⟨?_, Int.le_refl L, .inr rfl⟩
    rw [Nat.pow_succ]
    omega
  · rw [if_neg h, if_neg h]
    have := Nat.mod_lt b p
    refine ⟨?_, ?_, .inl (by omega)⟩
    · rw [Nat.pow_succ]
      omega
    · generalize b / 2 ^ f = q at h ⊢
      omega
theorem parts_out {f : Nat} {t L : Int} {b : Nat} (h : ((b / 2 ^ f : Nat) : Int) < t) : out f t L (mt f b) (xp f L b) = some b := by
  obtain ⟨a1, a2, a3⟩ := parts_good f L b
  have p := Nat.two_pow_pos f
  have dm := Nat.div_add_mod b (2 ^ f)
  unfold out
  rw [if_neg]
  · unfold mt xp
    by_cases z : b / 2 ^ f = 0
    · have : b < 2 ^ f := by
        rcases Nat.div_eq_zero_iff.1 z with z | z <;> omega
      rw [if_pos z, if_pos this]
    · rw [if_neg z, if_neg z, if_neg (by omega)]
      congr 1
      have e1 : (L + ((b / 2 ^ f : Nat) : Int) - 1 - L + 1).toNat = b / 2 ^ f := by
        generalize b / 2 ^ f = q
        omega
      rw [e1, Nat.mul_comm]
      omega
  · rintro (x | x | ⟨x, y⟩)
    · omega
    · omega
    · unfold mt at x
      unfold xp at y
      by_cases z : b / 2 ^ f = 0
      · have : b < 2 ^ f := by
          rcases Nat.div_eq_zero_iff.1 z with z | z <;> omega
        rw [if_pos z] at x
        omega
      · rw [if_neg z] at y
        generalize b / 2 ^ f = q at y h
        omega
theorem mt_pos {f b : Nat} (h : b ≠ 0) : mt f b ≠ 0 := by
  unfold mt
  have p := Nat.two_pow_pos f
  split <;> omega
theorem pk_parts {f : Nat} {t L : Int} {b : Nat} (b0 : b ≠ 0) (h : ((b / 2 ^ f : Nat) : Int) < t) : pk f t L (mt f b) (xp f L b) = some b := by
  rw [pk_fin (mt_pos b0) (parts_good f L b).fin, parts_out h]
/-- Back: a good state's bits have it as their parts. -/
theorem out_parts {f : Nat} {t L : Int} {M b : Nat} {E : Int} (g : Good f L M E) (h : out f t L M E = some b) : mt f b = M ∧ xp f L b = E ∧ (((b / 2 ^ f : Nat) : Int) < t ∨ b < 2 ^ f) := by
  obtain ⟨a1, a2, a3⟩ := g
  have p := Nat.two_pow_pos f
  rw [Nat.pow_succ] at a1
  unfold out at h
  split at h
  · cases h
  · rename_i n
    split at h
    · rename_i k
      cases h
      have z : M / 2 ^ f = 0 := Nat.div_eq_of_lt k
      refine ⟨?_, ?_, .inr k⟩
      · unfold mt
        rw [if_pos z]
      · unfold xp
        rw [if_pos z]
        rcases a3 with a3 | a3 <;> omega
    · rename_i k
      cases h
      have hd : ((E - L + 1).toNat * 2 ^ f + (M - 2 ^ f)) / 2 ^ f = (E - L + 1).toNat := by
        rw [Nat.mul_comm, Nat.mul_add_div p, Nat.div_eq_of_lt (by omega), Nat.add_zero]
      have hm : ((E - L + 1).toNat * 2 ^ f + (M - 2 ^ f)) % 2 ^ f = M - 2 ^ f := by
        rw [Nat.mul_comm, Nat.mul_add_mod, Nat.mod_eq_of_lt (by omega)]
      have nz : ¬ (E - L + 1).toNat = 0 := by omega
      refine ⟨?_, ?_, .inl ?_⟩
      · unfold mt
        rw [hd, hm, if_neg nz]
        omega
      · unfold xp
        rw [hd, if_neg nz]
        omega
      · rw [hd]
        have : ¬ (2 ^ f ≤ M ∧ t ≤ E - L + 1) := fun x => n (.inr (.inr x))
        have : ¬ t ≤ E - L + 1 := fun x => this ⟨by omega, x⟩
        omega

end Go.Proofs.YtkmnkogbafhfdaaDoor
