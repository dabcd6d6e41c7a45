/-
  The road of products: rounded with an end; a product's first word and what is dropped of it; both ends; room for one more; where the powers end. No program in sight.
-/
import Derived.Test.YtohbggdkopmpfaaDoorPrO
namespace Go.Proofs.YtohbggdkopmpfaaDoor

/-- x is what the number, a hair less or more, is rounded to, with an end. -/
def NrT (f T : Nat) (L : Int) (n d : Nat) (e t : Int) (x : Nat) : Prop := ∃ b, RDT f L n d e t b ∧ x = rdE f T b
theorem NrT.uniq {f T : Nat} {L : Int} {n d : Nat} {e t : Int} {x y : Nat} (d0 : 0 < d) (h : NrT f T L n d e t x) (k : NrT f T L n d e t y) : x = y := by
  obtain ⟨b, hb, rfl⟩ := h
  obtain ⟨c, hc, rfl⟩ := k
  rw [hb.uniq d0 hc]
theorem NrT.rise {f T : Nat} {L : Int} {n d n' d' : Nat} {e e' t t' : Int} {x y : Nat} (d0 : 0 < d) (d0' : 0 < d') (h : fLe n d e n' d' e') (ht : t ≤ t' ∨ fLt n d e n' d' e') (k : NrT f T L n d e t x) (k' : NrT f T L n' d' e' t' y) : x ≤ y := by
  obtain ⟨b, hb, rfl⟩ := k
  obtain ⟨c, hc, rfl⟩ := k'
  exact rdE_mono (RDT.rise d0 d0' h ht hb hc)
theorem NrT.between {f T : Nat} {L : Int} {n d n1 d1 n2 d2 : Nat} {e e1 e2 t t1 t2 : Int} {x c : Nat} (d0 : 0 < d) (d01 : 0 < d1) (d02 : 0 < d2)
    (h1 : fLe n1 d1 e1 n d e) (ht1 : t1 ≤ t ∨ fLt n1 d1 e1 n d e) (h2 : fLe n d e n2 d2 e2) (ht2 : t ≤ t2 ∨ fLt n d e n2 d2 e2)
    (k1 : NrT f T L n1 d1 e1 t1 x) (k2 : NrT f T L n2 d2 e2 t2 x) (k : NrT f T L n d e t c) : c = x :=
  Nat.le_antisymm (NrT.rise d0 d02 h2 ht2 k k2) (NrT.rise d01 d0 h1 ht1 k1 k)
theorem NrT_iff {f T : Nat} {L : Int} {n d n' d' : Nat} {e e' t : Int} (d0 : 0 < d) (d0' : 0 < d') (h : Eqv (n * d') e (n' * d) e') (x : Nat) : NrT f T L n d e t x ↔ NrT f T L n' d' e' t x := by
  unfold NrT
  constructor
  · rintro ⟨b, hb, rfl⟩
    exact ⟨b, (RDT_iff d0 d0' h b).1 hb, rfl⟩
  · rintro ⟨b, hb, rfl⟩
    exact ⟨b, (RDT_iff d0 d0' h b).2 hb, rfl⟩
theorem RDT_nought {f : Nat} {L : Int} {d : Nat} {e t : Int} (d0 : 0 < d) : RDT f L 0 d e t 0 := by
  refine ⟨.inl ⟨min e (hX f L 0), by omega, by omega, ?_⟩, .inl rfl⟩
  unfold ev hM
  rw [Nat.zero_mul]
  exact Nat.mul_pos d0 (Nat.mul_pos (by omega) (Nat.two_pow_pos _))
theorem NrT_nought {f T : Nat} {L : Int} {d : Nat} {e t : Int} (d0 : 0 < d) (hT : 0 < T) : NrT f T L 0 d e t 0 := by
  refine ⟨0, RDT_nought d0, ?_⟩
  unfold rdE
  rw [if_pos (Nat.mul_pos hT (Nat.two_pow_pos _))]
theorem NrT_val {f T : Nat} {L : Int} {n d : Nat} {e : Int} {b : Nat} (d0 : 0 < d) (hb : b < T * 2 ^ f) (h : vE n d e (mt f b) (xp f L b)) : NrT f T L n d e 0 b :=
  ⟨b, RDT_zero.2 (RD_val false d0 h), by unfold rdE; rw [if_pos hb]⟩

/-- A word without its last bits, rounded; on a side nothing is half way. -/
def drp (h k : Nat) (t : Int) : Nat := if 64 < k then 0 else h / 2 ^ k + (if 2 ^ (k - 1) < h % 2 ^ k ∨ (h % 2 ^ k = 2 ^ (k - 1) ∧ (0 < t ∨ (t = 0 ∧ h / 2 ^ k % 2 = 1))) then 1 else 0)
theorem drp_rQT {P B h r k : Nat} (t : Int) (hP : P = h * 2 ^ B + r) (hr : r < 2 ^ B) (h64 : h < 2 ^ 64) (k0 : 0 < k) :
    P / 2 ^ (B + k) = h / 2 ^ k ∧ rQT t (P / 2 ^ (B + k)) (P % 2 ^ (B + k)) (2 ^ (B + k)) = drp h k (if r = 0 then t else 1) := by
  have bp := Nat.two_pow_pos B
  have e1 : P / 2 ^ B = h := by rw [hP, Nat.mul_comm, Nat.mul_add_div bp, Nat.div_eq_of_lt hr, Nat.add_zero]
  have e0 : P % 2 ^ B = r := by rw [hP, Nat.mul_comm, Nat.mul_add_mod, Nat.mod_eq_of_lt hr]
  have e2 : P / 2 ^ (B + k) = h / 2 ^ k := by rw [Nat.pow_add, ← Nat.div_div_eq_div_mul, e1]
  have e3 : P % 2 ^ (B + k) = r + 2 ^ B * (h % 2 ^ k) := by rw [Nat.pow_add, Nat.mod_mul, e0, e1]
  refine ⟨e2, ?_⟩
  rw [e2, e3]
  have e4 : 2 ^ (B + k) = 2 * (2 ^ B * 2 ^ (k - 1)) := by
    obtain ⟨j, rfl⟩ : ∃ j, k = j + 1 := ⟨k - 1, by omega⟩
    rw [Nat.add_sub_cancel, ← Nat.add_assoc, Nat.pow_succ, Nat.pow_add, Nat.mul_comm]
  rw [e4]
  have cmp : (2 * (2 ^ B * 2 ^ (k - 1)) < 2 * (r + 2 ^ B * (h % 2 ^ k)) ↔ (2 ^ (k - 1) < h % 2 ^ k ∨ (h % 2 ^ k = 2 ^ (k - 1) ∧ r ≠ 0))) ∧ (2 * (r + 2 ^ B * (h % 2 ^ k)) = 2 * (2 ^ B * 2 ^ (k - 1)) ↔ (h % 2 ^ k = 2 ^ (k - 1) ∧ r = 0)) := by
    generalize h % 2 ^ k = y
    generalize 2 ^ (k - 1) = c
    generalize 2 ^ B = b at *
    rcases Nat.lt_trichotomy c y with q | q | q
    · obtain ⟨j, rfl⟩ : ∃ j, y = c + 1 + j := ⟨y - c - 1, by omega⟩
      have z : b * (c + 1 + j) = b * c + b + b * j := by rw [Nat.mul_add, Nat.mul_add, Nat.mul_one]
      generalize b * j = u at *
      generalize b * c = v at *
      constructor <;> constructor <;> intro _ <;> omega
    · subst q
      generalize b * c = v at *
      constructor <;> constructor <;> intro _ <;> omega
    · obtain ⟨j, rfl⟩ : ∃ j, c = y + 1 + j := ⟨c - y - 1, by omega⟩
      have z : b * (y + 1 + j) = b * y + b + b * j := by rw [Nat.mul_add, Nat.mul_add, Nat.mul_one]
      generalize b * j = u at *
      generalize b * y = v at *
      constructor <;> constructor <;> intro _ <;> omega
  obtain ⟨c1, c2⟩ := cmp
  unfold rQT rUT
  simp only [c1, c2]
  unfold drp
  by_cases k64 : 64 < k
  · rw [if_pos k64]
    have p1 : 2 ^ 64 ≤ 2 ^ (k - 1) := Nat.pow_le_pow_right (by decide) (by omega)
    have p2 : 2 ^ (k - 1) ≤ 2 ^ k := Nat.pow_le_pow_right (by decide) (by omega)
    rw [Nat.div_eq_of_lt (by omega), Nat.mod_eq_of_lt (by omega)]
    rw [if_neg]
    rw [decide_eq_true_eq]
    omega
  · rw [if_neg k64]
    congr 1
    generalize h % 2 ^ k = y
    generalize h / 2 ^ k = q
    generalize 2 ^ (k - 1) = c
    by_cases r0 : r = 0
    · rw [if_pos r0]
      simp only [decide_eq_true_eq]
      congr 1
      apply propext
      constructor <;> intro _ <;> omega
    · rw [if_neg r0]
      simp only [decide_eq_true_eq]
      congr 1
      apply propext
      constructor <;> intro _ <;> omega
theorem drp_lt {h k : Nat} (t : Int) (h64 : h < 2 ^ 64) (k0 : 0 < k) : drp h k t < 2 ^ 64 := by
  unfold drp
  split
  · decide
  · have a : h / 2 ^ k ≤ h / 2 := Nat.div_le_div_left (by have := Nat.pow_le_pow_right (n := 2) (by decide) (show 1 ≤ k by omega); omega) (by decide)
    split <;> omega
/-- What a product is rounded to by its first word. -/
theorem long_near {f T P B h r k : Nat} {L E : Int} (t : Int) (hf : 0 < f) (f6 : f < 63) (hT : 2 ≤ T) (hP : P = h * 2 ^ B + r) (hr : r < 2 ^ B) (h63 : 2 ^ 63 ≤ h) (h64 : h < 2 ^ 64)
    (hk : (k : Int) = max (63 - (f : Int)) (L - (E + B))) :
    (drp h k (if r = 0 then t else 1) = 0 → NrT f T L P 1 E t 0) ∧
    (drp h k (if r = 0 then t else 1) ≠ 0 → ∃ b, NrT f T L P 1 E t (rdE f T b) ∧ pk f (T : Int) L (drp h k (if r = 0 then t else 1)) (E + B + k) = if b < T * 2 ^ f then some b else none) := by
  have k0 : 0 < k := by omega
  obtain ⟨e1, e2⟩ := drp_rQT t hP hr h64 k0
  have g : Good f L (P / 2 ^ (B + k)) (E + ((B + k : Nat) : Int)) := by
    rw [e1]
    refine ⟨?_, by omega, ?_⟩
    · rw [Nat.div_lt_iff_lt_mul (Nat.two_pow_pos k), ← Nat.pow_add]
      exact Nat.lt_of_lt_of_le h64 (Nat.pow_le_pow_right (by decide) (by omega))
    · by_cases c : (k : Int) = 63 - (f : Int)
      · left
        rw [Nat.le_div_iff_mul_le (Nat.two_pow_pos k), ← Nat.pow_add, show f + k = 63 from by omega]
        exact h63
      · right
        omega
  have rd := keep_RDT hf (t := t) g
  rw [e2] at rd
  obtain ⟨q1, q2, q3⟩ := g
  rw [e1] at q1 q3
  have up : h / 2 ^ k ≤ drp h k (if r = 0 then t else 1) ∧ drp h k (if r = 0 then t else 1) ≤ h / 2 ^ k + 1 := by
    rw [← e2, e1]
    unfold rQT
    split <;> omega
  generalize drp h k (if r = 0 then t else 1) = Q at *
  rw [show E + ((B + k : Nat) : Int) = E + B + k from by omega] at *
  have fp := Nat.two_pow_pos f
  have tp : 0 < T * 2 ^ f := Nat.mul_pos (by omega) fp
  constructor
  · intro z
    refine ⟨_, rd, ?_⟩
    have e : E + B + k = L := q3.resolve_left (by omega)
    unfold ly
    rw [z, e, show (L - L).toNat = 0 from by omega, Nat.zero_mul]
    unfold rdE
    rw [if_pos tp]
  · intro z
    refine ⟨_, ⟨_, rd, rfl⟩, pk_ly hT z (by omega) q2 ?_⟩
    rcases q3 with q | q
    · exact .inl (by omega)
    · exact .inr q

/-- A power that is cut off lies below the number. -/
theorem Pw.lt {e : Int} {M : Nat} {E : Int} (h : Pw e M E) (hx : ¬ vE (pN e) (pD e) 0 M E) {m : Nat} (m0 : 0 < m) : fLt (m * M) 1 E (m * pN e) (pD e) 0 := by
  obtain ⟨K, hK⟩ : ∃ K, K = min 0 E := ⟨_, rfl⟩
  refine ⟨K, by omega, by omega, ?_⟩
  have a := not_vL_at h.2.2.1 K (by omega) (by omega)
  have b : ev K (pN e) 0 ≠ pD e * ev K M E := fun z => hx ⟨K, by omega, by omega, z⟩
  rw [ev_mul, ev_mul, Nat.mul_one, Nat.mul_assoc, Nat.mul_comm (ev K M E)]
  exact Nat.mul_lt_mul_of_pos_left (by omega) m0

/-- No power of ten that is cut off has 1 alone in its bits. -/
def okUp (j : Nat) : Bool := decide (10 ^ j * 2 ^ 128 < (2 ^ 128 - 1) * 2 ^ ((10 ^ j).log2 + 1))
def okDn (j : Nat) : Bool := decide (j = 0) || decide (2 ^ (10 ^ j).log2 * 2 ^ 128 < 10 ^ j * (2 ^ 128 - 1))
theorem okUp_all : (List.range 401).all okUp = true := by decide +kernel
theorem okDn_all : (List.range 401).all okDn = true := by decide +kernel
theorem all_at {p : Nat → Bool} {n k : Nat} (h : (List.range n).all p = true) (hk : k < n) : p k = true := List.all_eq_true.1 h k (List.mem_range.2 hk)
theorem log2_of {m k : Nat} (h : 2 ^ k ≤ m) (h' : m < 2 ^ (k + 1)) : m.log2 = k := by
  have a := ln_of h h'
  unfold ln at a
  split at a
  · omega
  · omega
theorem room_up {n a b C : Nat} (_hC : 2 ≤ C) (hp : C = 2 ^ 128) (n0 : 0 < n) (h1 : n * 2 ^ b < C * 2 ^ a) (h2 : (C - 1) * 2 ^ a ≤ n * 2 ^ b) (ok : n * C < (C - 1) * 2 ^ (n.log2 + 1)) : False := by
  have bp := Nat.two_pow_pos b
  have ab : b < 128 + a := by
    rcases Nat.lt_or_ge b (128 + a) with c | c
    · exact c
    · have q : 2 ^ (128 + a) ≤ 2 ^ b := Nat.pow_le_pow_right (by decide) c
      rw [Nat.pow_add, ← hp] at q
      have := Nat.le_mul_of_pos_left (2 ^ b) n0
      omega
  obtain ⟨k, hk⟩ : ∃ k, 128 + a = b + (k + 1) := ⟨128 + a - b - 1, by omega⟩
  have e : C * 2 ^ a = 2 ^ b * 2 ^ (k + 1) := by rw [hp, ← Nat.pow_add, ← Nat.pow_add, hk]
  have l1 : n < 2 ^ (k + 1) := by
    rw [e, Nat.mul_comm (2 ^ b)] at h1
    exact Nat.lt_of_mul_lt_mul_right h1
  have l2 : 2 ^ k ≤ n := by
    apply Nat.le_of_not_lt
    intro c
    have c2 : n * 2 ^ b < 2 ^ k * 2 ^ b := Nat.mul_lt_mul_of_pos_right c bp
    have e2 : 2 * (2 ^ k * 2 ^ b) = C * 2 ^ a := by rw [e, Nat.pow_succ]; generalize 2 ^ k = u; generalize 2 ^ b = v; rw [Nat.mul_comm u v, Nat.mul_comm v (u * 2), Nat.mul_comm u 2, Nat.mul_assoc, Nat.mul_comm u v]
    have e3 : C * 2 ^ a ≤ 2 * ((C - 1) * 2 ^ a) := by rw [← Nat.mul_assoc]; exact Nat.mul_le_mul_right _ (by omega)
    omega
  rw [log2_of l2 l1] at ok
  have s1 := Nat.mul_lt_mul_of_pos_right ok bp
  have s2 := Nat.mul_le_mul_right C h2
  have e4 : (C - 1) * 2 ^ (k + 1) * 2 ^ b = (C - 1) * 2 ^ a * C := by
    rw [Nat.mul_assoc, Nat.mul_comm (2 ^ (k + 1)), ← e, Nat.mul_assoc, Nat.mul_comm C]
  have e5 : n * C * 2 ^ b = n * 2 ^ b * C := Nat.mul_right_comm _ _ _
  omega
theorem room_dn {d a b C : Nat} (_hC : 4 ≤ C) (hp : C = 2 ^ 128) (d2 : 2 ≤ d) (h1 : 2 ^ b < d * (C * 2 ^ a)) (h2 : d * ((C - 1) * 2 ^ a) ≤ 2 ^ b) (ok : 2 ^ d.log2 * C < d * (C - 1)) : False := by
  have ap := Nat.two_pow_pos a
  have ab : 128 + a ≤ b := by
    rcases Nat.lt_or_ge b (128 + a) with c | c
    · have q : 2 ^ (b + 1) ≤ 2 ^ (128 + a) := Nat.pow_le_pow_right (by decide) c
      rw [Nat.pow_add 2 128, ← hp, Nat.pow_succ] at q
      have x1 : 2 * ((C - 1) * 2 ^ a) ≤ d * ((C - 1) * 2 ^ a) := Nat.mul_le_mul_right _ d2
      have x2 : 2 ^ a * C + 2 * 2 ^ a ≤ 2 * (2 * ((C - 1) * 2 ^ a)) := by
        rw [← Nat.mul_assoc, ← Nat.mul_assoc, Nat.mul_comm (2 ^ a) C, ← Nat.add_mul]
        exact Nat.mul_le_mul_right _ (by omega)
      rw [Nat.mul_comm C] at q
      omega
    · exact c
  obtain ⟨c, hc⟩ : ∃ c, b = c + (128 + a) := ⟨b - (128 + a), by omega⟩
  have e : 2 ^ b = 2 ^ c * C * 2 ^ a := by rw [hc, Nat.pow_add, Nat.pow_add, ← hp, Nat.mul_assoc]
  have l1 : 2 ^ c < d := by
    rw [e, Nat.mul_assoc] at h1
    exact Nat.lt_of_mul_lt_mul_right h1
  have h3 : d * (C - 1) ≤ 2 ^ c * C := by
    rw [e, ← Nat.mul_assoc] at h2
    exact Nat.le_of_mul_le_mul_right h2 ap
  have l2 : d < 2 ^ (c + 1) := by
    apply Nat.lt_of_not_le
    intro q
    have x1 : 2 ^ (c + 1) * (C - 1) ≤ d * (C - 1) := Nat.mul_le_mul_right _ q
    have x2 : 2 ^ c * C < 2 ^ (c + 1) * (C - 1) := by
      rw [Nat.pow_succ, Nat.mul_assoc]
      exact Nat.mul_lt_mul_of_pos_left (by omega) (Nat.two_pow_pos c)
    omega
  rw [log2_of (Nat.le_of_lt l1) l2] at ok
  omega
theorem Pw.room {e : Int} {M : Nat} {E : Int} (h : Pw e M E) (h1 : -400 ≤ e) (h2 : e ≤ 400) : M + 1 < 2 ^ 128 := by
  obtain ⟨q1, q2, q3, q4⟩ := h
  apply Nat.lt_of_le_of_ne q2
  intro z
  obtain ⟨C, hp⟩ : ∃ C, C = 2 ^ 128 := ⟨_, rfl⟩
  have hC : 4 ≤ C := by rw [hp]; decide
  rw [← hp] at z
  have zM : M = C - 1 := by omega
  obtain ⟨K, hK⟩ : ∃ K, K = min 0 E := ⟨_, rfl⟩
  have u1 := not_vL_at q3 K (by omega) (by omega)
  have u2 := q4.at K (by omega) (by omega)
  rw [zM, show C - 1 + 1 = C from by omega] at u2
  rw [zM] at u1
  unfold ev at u1 u2
  rcases Int.lt_or_le e 0 with c | c
  · obtain ⟨j, rfl⟩ : ∃ j : Nat, e = -(j : Int) := ⟨(-e).toNat, by omega⟩
    have ok := all_at okDn_all (show j < 401 by omega)
    unfold okDn at ok
    rw [Bool.or_eq_true, decide_eq_true_eq, decide_eq_true_eq, ← hp] at ok
    have ok2 := ok.resolve_left (by omega)
    unfold pN pD at u1 u2
    rw [show (-(j : Int)).toNat = 0 from by omega, show (- -(j : Int)).toNat = j from by omega, Nat.pow_zero, Nat.one_mul] at u1 u2
    have d2 : 2 ≤ 10 ^ j := by
      obtain ⟨i, rfl⟩ : ∃ i, j = i + 1 := ⟨j - 1, by omega⟩
      rw [Nat.pow_succ]
      have := Nat.pow_pos (n := i) (show 0 < 10 by decide)
      omega
    exact room_dn hC hp d2 u2 u1 ok2
  · obtain ⟨j, rfl⟩ : ∃ j : Nat, e = (j : Int) := ⟨e.toNat, by omega⟩
    have ok := all_at okUp_all (show j < 401 by omega)
    unfold okUp at ok
    rw [decide_eq_true_eq, ← hp] at ok
    unfold pN pD at u1 u2
    rw [show (-(j : Int)).toNat = 0 from by omega, show (j : Int).toNat = j from by omega, Nat.pow_zero, Nat.one_mul] at u1 u2
    exact room_up (by omega) hp (Nat.pow_pos (by decide)) u2 u1 ok

/-- Beyond the last powers: the infinity, and 0. -/
theorem far_up {f T : Nat} (hf : 0 < f) (hT : 1 ≤ T) {L : Int} (hL : (f : Int) + L + T ≤ 1100) {m : Nat} (m0 : 0 < m) {t : Int} {x : Nat} (h : NrT f T L (m * pN 400) (pD 400) 0 t x) : x = T * 2 ^ f := by
  obtain ⟨b, hb, rfl⟩ := h
  obtain ⟨c, hc⟩ := rdt_exists hf (L := L) (n := 1) (d := 1) (e := 1100) 0 (by decide) (by decide)
  have k := rdA_of (T := T) hf (by decide) (by decide) (RDT_zero.1 hc)
  rw [rdA_high hf hT (N := 1) false (by decide) (by decide) (by decide) (by omega)] at k
  have cb : T * 2 ^ f ≤ c := by
    by_cases z : c < T * 2 ^ f
    · rw [if_pos z] at k
      exact absurd (congrArg Prod.snd k) (by simp)
    · omega
  have lt : fLt 1 1 1100 (m * pN 400) (pD 400) 0 := by
    refine ⟨0, by decide, by decide, ?_⟩
    have e : ev 0 1 1100 * pD 400 < pN 400 := by decide +kernel
    unfold ev at e ⊢
    rw [Int.sub_self, show (0 : Int).toNat = 0 from rfl, Nat.pow_zero, Nat.mul_one, Nat.mul_one]
    exact Nat.lt_of_lt_of_le e (Nat.le_mul_of_pos_left _ m0)
  have := RDT.rise (by decide) (pD_pos 400) lt.le (.inr lt) hc hb
  unfold rdE
  rw [if_neg (by omega)]
theorem far_dn {f T : Nat} (hf : 0 < f) (hT : 1 ≤ T) {L : Int} (hL : -1099 ≤ L - 1) {m : Nat} (hm : m ≤ 2 ^ 64) {t : Int} {x : Nat} (h : NrT f T L (m * pN (-400)) (pD (-400)) 0 t x) : x = 0 := by
  obtain ⟨b, hb, rfl⟩ := h
  obtain ⟨c, hc⟩ := rdt_exists hf (L := L) (n := 1) (d := 1) (e := -1100) 0 (by decide) (by decide)
  have k := rdA_of (T := T) hf (by decide) (by decide) (RDT_zero.1 hc)
  rw [rdA_low hf hT (N := 1) false (by decide) (by decide) (by omega)] at k
  have cb : c = 0 := by
    by_cases z : c < T * 2 ^ f
    · rw [if_pos z] at k
      exact (congrArg Prod.fst k).symm
    · rw [if_neg z] at k
      exact absurd (congrArg Prod.snd k) (by simp)
  have lt : fLt (m * pN (-400)) (pD (-400)) 0 1 1 (-1100) := by
    refine ⟨-1100, by decide, by decide, ?_⟩
    have e : ev (-1100) (2 ^ 64 * pN (-400)) 0 * 1 < ev (-1100) 1 (-1100) * pD (-400) := by decide +kernel
    refine Nat.lt_of_le_of_lt ?_ e
    unfold ev
    exact Nat.mul_le_mul_right _ (Nat.mul_le_mul_right _ (Nat.mul_le_mul_right _ hm))
  have := RDT.rise (pD_pos (-400)) (by decide) lt.le (.inr lt) hb hc
  have z : b = 0 := by omega
  unfold rdE
  rw [z, if_pos (Nat.mul_pos hT (Nat.two_pow_pos _))]
end Go.Proofs.YtohbggdkopmpfaaDoor
