/-
  Numbers of base two, with something behind them or not: what the answer is, that far exponents may be brought near, and that both ends are rounded to the same float just where bits are dropped or the greatest float is passed. No program in sight.
-/
import Derived.Test.YtkmnkogbafhfdaaDoorHx1
namespace Go.Proofs.YtkmnkogbafhfdaaDoor

/-- Rounded with an end, and whether it passed that. -/
def NrO (f T : Nat) (L : Int) (n d : Nat) (e t : Int) (x : Nat) (ov : Bool) : Prop := NrT f T L n d e t x ∧ ov = decide (x = T * 2 ^ f)
/-- The answer: none where what lies behind decides. -/
def hxA (f T : Nat) (L : Int) (m : Nat) (e : Int) (more : Bool) : Option (Nat × Bool) :=
  if more = true ∧ dpD f L m e = 0 ∧ (rdA f T L m 1 e more).2 = false then none else some (rdA f T L m 1 e more)
/-- An exponent brought near. -/
def clK (K e : Int) : Int := max (-K) (min e K)
theorem rdA_nought {f T : Nat} {L : Int} {d : Nat} {e : Int} {more : Bool} : rdA f T L 0 d e more = (0, false) := by
  unfold rdA
  rw [if_pos rfl]
theorem rdA_cl {f T : Nat} (hf : 0 < f) (hT : 1 ≤ T) {L : Int} (h1 : (f : Int) + L + T ≤ 2000) (h2 : -1900 ≤ L) {m : Nat} (hm : m < 2 ^ 64) {K : Int} (hK : 2000 ≤ K) (e : Int) (more : Bool) : rdA f T L m 1 (clK K e) more = rdA f T L m 1 e more := by
  by_cases m0 : m = 0
  · subst m0
    rw [rdA_nought, rdA_nought]
  · rcases (by omega : e < -K ∨ (-K ≤ e ∧ e ≤ K) ∨ K < e) with c | c | c
    · have q : clK K e = -K := by unfold clK; omega
      rw [q, rdA_low (N := 64) hf hT more (by decide) hm (by omega), rdA_low (N := 64) hf hT more (by decide) hm (by omega)]
    · have q : clK K e = e := by unfold clK; omega
      rw [q]
    · have q : clK K e = K := by unfold clK; omega
      rw [q, rdA_high (N := 1) hf hT more m0 (by decide) (by decide) (by omega), rdA_high (N := 1) hf hT more m0 (by decide) (by decide) (by omega)]
theorem dpD_cl {f : Nat} {L : Int} (h2 : -1900 ≤ L) (h3 : L ≤ 0) {m : Nat} {K : Int} (hK : 2000 ≤ K) (e : Int) : dpD f L m (clK K e) = 0 ↔ dpD f L m e = 0 := by
  unfold dpD clK
  omega
theorem hxA_cl {f T : Nat} (hf : 0 < f) (hT : 1 ≤ T) {L : Int} (h1 : (f : Int) + L + T ≤ 2000) (h2 : -1900 ≤ L) (h3 : L ≤ 0) {m : Nat} (hm : m < 2 ^ 64) {K : Int} (hK : 2000 ≤ K) (e : Int) (more : Bool) : hxA f T L m (clK K e) more = hxA f T L m e more := by
  unfold hxA
  rw [rdA_cl hf hT h1 h2 hm hK e more]
  simp only [dpD_cl h2 h3 hK]
/-- What is rounded, as bits with an end. -/
theorem rd_rdA {f T : Nat} (hf : 0 < f) (hT : 0 < T) {L : Int} {m : Nat} {e : Int} {more : Bool} {b : Nat} (h : RD f L m 1 e more b) (h0 : m = 0 → b = 0) : rdA f T L m 1 e more = (rdE f T b, decide (rdE f T b = T * 2 ^ f)) := by
  have p := Nat.mul_pos hT (Nat.two_pow_pos f)
  by_cases m0 : m = 0
  · rw [h0 m0, m0, rdA_nought]
    have z : rdE f T 0 = 0 := by unfold rdE; rw [if_pos p]
    rw [z, decide_eq_false (by omega)]
  · rw [rdA_of hf m0 (by decide) h]
    unfold rdE
    by_cases c : b < T * 2 ^ f
    · rw [if_pos c, if_pos c, decide_eq_false (by omega)]
    · rw [if_neg c, if_neg c, decide_eq_true rfl]
theorem hx_plain {f T : Nat} (hf : 0 < f) (hT : 0 < T) {L : Int} {m : Nat} {e : Int} {x : Nat} {ov : Bool} (h : NrO f T L m 1 e 0 x ov) : hxA f T L m e false = some (x, ov) := by
  obtain ⟨⟨b, hb, rfl⟩, rfl⟩ := h
  unfold hxA
  rw [if_neg (by simp), rd_rdA hf hT (RDT_zero.1 hb) (fun z => by subst z; exact hb.uniq Nat.one_pos (RDT_nought Nat.one_pos))]
/-- Where nothing is dropped there is room. -/
theorem dp_room {f : Nat} {L : Int} {m : Nat} {e : Int} (h : dpD f L m e = 0) : ∃ k : Nat, Good f L (m * 2 ^ k) (e - k) := by
  have h1 : ln m ≤ f + 1 := by unfold dpD at h; omega
  have h2 : L ≤ e := by unfold dpD at h; omega
  by_cases m0 : m = 0
  · subst m0
    refine ⟨(e - L).toNat, ?_, by omega, .inr (by omega)⟩
    rw [Nat.zero_mul]
    exact Nat.two_pow_pos _
  · have hk : ∃ k : Nat, L ≤ e - k ∧ ln m + k ≤ f + 1 ∧ (ln m + k = f + 1 ∨ e - (k : Int) = L) := by
      by_cases c : e - ((f + 1 - ln m : Nat) : Int) < L
      · exact ⟨(e - L).toNat, by omega, by omega, by omega⟩
      · exact ⟨f + 1 - ln m, by omega, by omega, by omega⟩
    obtain ⟨k, k1, k2, k3⟩ := hk
    have l := ln_shl m0 k
    have n0 : m * 2 ^ k ≠ 0 := Nat.mul_ne_zero m0 (Nat.ne_of_gt (Nat.two_pow_pos k))
    refine ⟨k, (ln_iff _ _).1 (by omega), k1, ?_⟩
    rcases k3 with c | c
    · left
      have := ln_le n0
      rw [l, c] at this
      exact this
    · right; exact c
theorem vE_of {n : Nat} {e : Int} {M : Nat} {x : Int} (h : Eqv n e M x) : vE n 1 e M x := by
  obtain ⟨K, a, b, c⟩ := h
  exact ⟨K, a, b, by rw [Nat.one_mul]; exact c⟩
/-- Nothing is dropped: the ends are rounded to two floats. -/
theorem ends_apart {f : Nat} {L : Int} {m : Nat} {e : Int} {b c : Nat} (h : dpD f L m e = 0) (hb : RDT f L m 1 e 1 b) (hc : RDT f L (m + 1) 1 e (-1) c) : b < c := by
  obtain ⟨k, g⟩ := dp_room h
  obtain ⟨p1, p2⟩ := ly_parts g
  obtain ⟨b0, hb0⟩ : ∃ b0, b0 = ly f L (m * 2 ^ k) (e - k) := ⟨_, rfl⟩
  rw [← hb0] at p1 p2
  have q : vE m 1 e (mt f b0) (xp f L b0) := by
    rw [p1, p2]
    exact vE_of (Eqv.shl m e k)
  obtain rfl : b = b0 := hb.uniq Nat.one_pos ((RDT_more (by decide)).2 (RD_val true Nat.one_pos q))
  apply Nat.lt_of_not_le
  intro z
  have u := hc.1.mono Nat.one_pos z
  have v : vL (m + 1) 1 e (mt f (b + 1)) (xp f L (b + 1)) := by
    rcases u with u | ⟨u, _⟩
    · exact u.up (half_val f L b).le
    · exact u.up Nat.one_pos (half_val f L b)
  have s := (mt_succ f L b).symm
  rw [p1, p2] at s
  have r := (v.up s.lE).at (e - k) (by omega) (by omega)
  rw [ev_self, Nat.one_mul] at r
  unfold ev at r
  rw [show (e - (e - (k : Int))).toNat = k from by omega, Nat.add_mul, Nat.one_mul] at r
  have := Nat.two_pow_pos k
  omega
theorem dp_good0 {f : Nat} {L : Int} {m : Nat} {e : Int} (h : dpD f L m e ≠ 0) : Good f L (m / 2 ^ (dpD f L m e).toNat) (e + (dpD f L m e).toNat) := by
  by_cases m0 : m = 0
  · subst m0
    have l0 : ln 0 = 0 := by decide
    have q : (dpD f L 0 e).toNat = (L - e).toNat ∧ e < L := by unfold dpD at h ⊢; rw [l0] at h ⊢; omega
    rw [q.1, Nat.zero_div]
    exact ⟨Nat.two_pow_pos _, by omega, .inr (by omega)⟩
  · exact dp_good m0 (by unfold dpD at h; omega)
/-- Bits are dropped: the ends are rounded to the same. -/
theorem ends_same {f : Nat} (hf : 0 < f) {L : Int} {m : Nat} {e : Int} {b c : Nat} (h : dpD f L m e ≠ 0) (hb : RDT f L m 1 e 1 b) (hc : RDT f L (m + 1) 1 e (-1) c) : b = c := by
  have g := dp_good0 h
  obtain ⟨D, hD⟩ : ∃ D, D = (dpD f L m e).toNat := ⟨_, rfl⟩
  have D0 : D ≠ 0 := by rw [hD]; unfold dpD at h ⊢; omega
  rw [← hD] at g
  clear hD h
  obtain ⟨y, hy⟩ : ∃ y, y = 2 ^ (D - 1) := ⟨_, rfl⟩
  have y1 : 0 < y := by rw [hy]; exact Nat.two_pow_pos _
  have e2 : 2 ^ D = 2 * y := by rw [hy, show D = D - 1 + 1 from by omega, Nat.pow_succ, Nat.add_sub_cancel]; omega
  have em : m / 2 ^ D * 2 ^ D + m % 2 ^ D = m := Nat.div_add_mod' m (2 ^ D)
  have rl : m % 2 ^ D < 2 ^ D := Nat.mod_lt _ (Nat.two_pow_pos D)
  have k1 := quo_RDT hf (n := m) (d := 1) (e := e) (r := m % 2 ^ D) 1 Nat.one_pos rl g (by
    rw [em, Nat.mul_one]
    exact (Eqv.rfl' m e).lift D)
  rw [hb.uniq Nat.one_pos k1]
  generalize m % 2 ^ D = r at *
  obtain ⟨q, hq⟩ : ∃ q, q = m / 2 ^ D := ⟨_, rfl⟩
  rw [← hq] at g em k1 ⊢
  by_cases z : r + 1 < 2 ^ D
  · have k2 := quo_RDT hf (n := m + 1) (d := 1) (e := e) (r := r + 1) (-1) Nat.one_pos z g (by
      rw [← Nat.add_assoc, em, Nat.mul_one]
      exact (Eqv.rfl' (m + 1) e).lift D)
    rw [hc.uniq Nat.one_pos k2]
    have u : rUT 1 q r (2 ^ D) = rUT (-1) q (r + 1) (2 ^ D) := by
      unfold rUT
      rw [e2]
      exact decide_eq_decide.2 (by omega)
    unfold rQT
    rw [u]
  · have u : rQT 1 q r (2 ^ D) = q + 1 := by
      unfold rQT rUT
      rw [e2, if_pos (decide_eq_true (by omega))]
    rw [u] at k1 ⊢
    rw [ly_succ] at k1 ⊢
    obtain ⟨p1, p2⟩ := ly_parts g
    obtain ⟨b0, hb0⟩ : ∃ b0, b0 = ly f L q (e + D) := ⟨_, rfl⟩
    rw [← hb0] at p1 p2 k1 ⊢
    have s := mt_succ f L b0
    rw [p1, p2] at s
    have em1 : (q + 1) * 2 ^ D = m + 1 := by rw [Nat.add_mul, Nat.one_mul]; omega
    have x := ((Eqv.rfl' (q + 1) e).lift D).trans s
    rw [em1] at x
    have k3 := RDT_zero.2 (RD_val (f := f) (L := L) false Nat.one_pos (vE_of x))
    have lo : b0 + 1 ≤ c := RDT.rise Nat.one_pos Nat.one_pos (fLt.le ⟨e, Int.le_refl _, Int.le_refl _, by rw [ev_self, ev_self]; omega⟩) (.inr ⟨e, Int.le_refl _, Int.le_refl _, by rw [ev_self, ev_self]; omega⟩) k1 hc
    have hi : c ≤ b0 + 1 := RDT.rise Nat.one_pos Nat.one_pos ⟨e, Int.le_refl _, Int.le_refl _, Nat.le_refl _⟩ (.inl (by decide)) hc k3
    omega
/-- With something behind: both ends' roundings tell the answer. -/
theorem hx_more {f T : Nat} (hf : 0 < f) (hT : 0 < T) {L : Int} {m : Nat} {e : Int} {x y : Nat} {ov past : Bool} (hx : NrO f T L m 1 e 1 x ov) (hy : NrO f T L (m + 1) 1 e (-1) y past) :
    (x = y → ov = past ∧ hxA f T L m e true = some (x, ov)) ∧ (x ≠ y → hxA f T L m e true = none) := by
  obtain ⟨⟨b, hb, rfl⟩, rfl⟩ := hx
  obtain ⟨⟨c, hc, rfl⟩, rfl⟩ := hy
  have r := rd_rdA hf hT ((RDT_more (by decide)).1 hb) (fun z => by subst z; exact hb.uniq Nat.one_pos (RDT_nought Nat.one_pos))
  unfold hxA
  rw [r]
  simp only [true_and]
  by_cases D : dpD f L m e = 0
  · have lt := ends_apart D hb hc
    by_cases o : b < T * 2 ^ f
    · have eb : rdE f T b = b := by unfold rdE; rw [if_pos o]
      have n1 : rdE f T b ≠ T * 2 ^ f := by rw [eb]; omega
      have n2 : rdE f T b ≠ rdE f T c := by
        rw [eb]
        unfold rdE
        split <;> omega
      rw [if_pos ⟨D, decide_eq_false n1⟩]
      exact ⟨fun z => absurd z n2, fun _ => rfl⟩
    · have eb : rdE f T b = T * 2 ^ f := by unfold rdE; rw [if_neg o]
      have ec : rdE f T c = T * 2 ^ f := by unfold rdE; rw [if_neg (by omega)]
      rw [eb, ec, if_neg (by simp)]
      exact ⟨fun _ => ⟨rfl, rfl⟩, fun z => absurd rfl z⟩
  · obtain rfl := ends_same hf D hb hc
    rw [if_neg (fun z => D z.1)]
    exact ⟨fun _ => ⟨rfl, rfl⟩, fun z => absurd rfl z⟩
/-- Twice the mantissa, one less in the exponent. -/
theorem rdA_two {f T : Nat} (hf : 0 < f) {L : Int} (m : Nat) (e : Int) : rdA f T L (2 * m) 1 (e - 1) false = rdA f T L m 1 e false := by
  refine rdA_same hf (by decide) (by decide) ?_
  have s := (Eqv.shl m e 1).symm
  rw [Nat.mul_one, Nat.mul_one, Nat.mul_comm 2 m]
  exact s
/-- A fraction of powers of two is a number of base two. -/
theorem NrO_two {f T : Nat} {L : Int} {m : Nat} {e t : Int} {x : Nat} {ov : Bool} {p q : Nat} (hp : (p : Int) = max e 0) (hq : (q : Int) = max (-e) 0) (h : NrO f T L (m * 2 ^ p) (1 * 2 ^ q) 0 t x ov) : NrO f T L m 1 e t x ov := by
  refine ⟨(NrT_iff (Nat.mul_pos Nat.one_pos (Nat.two_pow_pos q)) Nat.one_pos ?_ x).1 h.1, h.2⟩
  rw [Nat.mul_one, Nat.one_mul]
  by_cases c : 0 ≤ e
  · rw [show q = 0 from by omega, Nat.pow_zero, Nat.mul_one]
    have s := Eqv.shl m e p
    rw [show e - (p : Int) = 0 from by omega] at s
    exact s.symm
  · rw [show p = 0 from by omega, Nat.pow_zero, Nat.mul_one]
    have s := Eqv.shl m 0 q
    rw [show (0 : Int) - (q : Int) = e from by omega] at s
    exact s
end Go.Proofs.YtkmnkogbafhfdaaDoor
