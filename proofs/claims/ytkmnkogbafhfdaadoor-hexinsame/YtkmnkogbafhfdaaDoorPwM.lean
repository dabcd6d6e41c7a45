/-
  Powers of ten, cut off behind 128 bits: what they are, that they are one, which are exact, and how one follows another. (Plain mathematics.)
-/
import Derived.Test.YtkmnkogbafhfdaaDoorRdF
namespace Go.Proofs.YtkmnkogbafhfdaaDoor

/-- A power of ten as a fraction. -/
def pN (e : Int) : Nat := 10 ^ e.toNat
def pD (e : Int) : Nat := 10 ^ (-e).toNat
theorem pN_pos (e : Int) : 0 < pN e := Nat.pow_pos (by omega)
theorem pD_pos (e : Int) : 0 < pD e := Nat.pow_pos (by omega)
/-- M times two to the E is the power of ten, cut off behind 128 bits. -/
def Pw (e : Int) (M : Nat) (E : Int) : Prop := 2 ^ 127 ≤ M ∧ M < 2 ^ 128 ∧ ¬ vL (pN e) (pD e) 0 M E ∧ vL (pN e) (pD e) 0 (M + 1) E
theorem lE_of {m m' : Nat} {x x' : Int} (c : x ≤ x') (h : m ≤ m' * 2 ^ (x' - x).toNat) : lE m x m' x' := by
  refine ⟨x, Int.le_refl _, c, ?_⟩
  unfold ev
  rw [Int.sub_self, show (0 : Int).toNat = 0 from rfl, Nat.pow_zero, Nat.mul_one]
  exact h
theorem Pw.le {e : Int} {M M' : Nat} {E E' : Int} (h : Pw e M E) (h' : Pw e M' E') : E' ≤ E := by
  refine Int.not_lt.1 (fun c => ?_)
  refine h'.2.2.1 (h.2.2.2.up (lE_of (by omega) ?_))
  have a := h.2.1
  have b := h'.1
  have t : 2 ≤ 2 ^ (E' - E).toNat := by
    have := Nat.pow_le_pow_right (n := 2) (by omega) (show 1 ≤ (E' - E).toNat by omega)
    omega
  have q := Nat.mul_le_mul b t
  omega
theorem Pw.uniq {e : Int} {M M' : Nat} {E E' : Int} (h : Pw e M E) (h' : Pw e M' E') : M = M' ∧ E = E' := by
  have eE : E = E' := by have := h.le h'; have := h'.le h; omega
  subst eE
  have key : ∀ {A B : Nat}, Pw e A E → Pw e B E → A ≤ B := by
    intro A B ha hb
    apply Nat.le_of_not_lt
    intro c
    refine ha.2.2.1 (hb.2.2.2.up (lE_of (Int.le_refl _) ?_))
    rw [Int.sub_self, show (0 : Int).toNat = 0 from rfl, Nat.pow_zero, Nat.mul_one]
    omega
  exact ⟨Nat.le_antisymm (key h h') (key h' h), rfl⟩
/-- A power of ten by powers of five. -/
theorem ten_five (k : Nat) : 10 ^ k = 2 ^ k * 5 ^ k := by rw [← Nat.mul_pow]
theorem pw_scale {a b c d M X Y : Nat} {e s : Int} (he : e = (a : Int) - (b : Int)) (hs : s = (c : Int) - (d : Int)) (ha : pN e = 2 ^ a * X) (hb : pD e = 2 ^ b * Y) :
    (vL (pN e) (pD e) 0 M (e - s) ↔ X * 2 ^ c < M * (Y * 2 ^ d)) ∧ (vE (pN e) (pD e) 0 M (e - s) ↔ X * 2 ^ c = M * (Y * 2 ^ d)) := by
  have l : ev (-((b : Int) + c)) (pN e) 0 = 2 ^ (a + b) * (X * 2 ^ c) := by
    unfold ev
    rw [ha, show (0 - -((b : Int) + (c : Int))).toNat = b + c from by omega, Nat.pow_add, Nat.pow_add]
    generalize 2 ^ a = A
    generalize 2 ^ b = D
    generalize 2 ^ c = G
    rw [Nat.mul_assoc, Nat.mul_assoc A D, Nat.mul_left_comm X D G]
  have r : pD e * ev (-((b : Int) + c)) M (e - s) = 2 ^ (a + b) * (M * (Y * 2 ^ d)) := by
    unfold ev
    rw [hb, show (e - s - -((b : Int) + (c : Int))).toNat = a + d from by omega, Nat.pow_add, Nat.pow_add]
    generalize 2 ^ a = A
    generalize 2 ^ b = D
    generalize 2 ^ d = G
    rw [Nat.mul_comm A D, Nat.mul_assoc D Y, Nat.mul_assoc D A]
    congr 1
    rw [Nat.mul_left_comm Y M, Nat.mul_left_comm Y A, Nat.mul_left_comm M A]
  have p := Nat.two_pow_pos (a + b)
  have k1 : -((b : Int) + c) ≤ 0 := by omega
  have k2 : -((b : Int) + c) ≤ e - s := by omega
  refine ⟨⟨fun h => ?_, fun h => ⟨_, k1, k2, ?_⟩⟩, ⟨fun h => ?_, fun h => ⟨_, k1, k2, ?_⟩⟩⟩
  · have q := h.at _ k1 k2
    rw [l, r] at q
    exact Nat.lt_of_mul_lt_mul_left q
  · rw [l, r]
    exact Nat.mul_lt_mul_of_pos_left h p
  · have q := h.at _ k1 k2
    rw [l, r] at q
    exact Nat.eq_of_mul_eq_mul_left p q
  · rw [l, r, h]
theorem pN_five (e : Int) : pN e = 2 ^ e.toNat * 5 ^ e.toNat := ten_five _
theorem pD_five (e : Int) : pD e = 2 ^ (-e).toNat * 5 ^ (-e).toNat := ten_five _
/-- A quotient of 128 bits of powers of five is it. -/
theorem pw_quo {e s : Int} {M r : Nat} (h1 : 2 ^ 127 ≤ M) (h2 : M < 2 ^ 128) (hr : r < 5 ^ (-e).toNat * 2 ^ (-s).toNat) (h : 5 ^ e.toNat * 2 ^ s.toNat = M * (5 ^ (-e).toNat * 2 ^ (-s).toNat) + r) :
    Pw e M (e - s) ∧ (vE (pN e) (pD e) 0 M (e - s) ↔ r = 0) := by
  have k := fun A => pw_scale (a := e.toNat) (b := (-e).toNat) (c := s.toNat) (d := (-s).toNat) (M := A) (e := e) (s := s) (by omega) (by omega) (pN_five e) (pD_five e)
  refine ⟨⟨h1, h2, ?_, ?_⟩, ?_⟩
  · rw [(k M).1, h]; omega
  · rw [(k (M + 1)).1, h, Nat.add_mul, Nat.one_mul]; omega
  · rw [(k M).2, h]; omega
theorem two_five : ∀ c : Nat, 2 ^ c % 5 ≠ 0
  | 0 => by decide
  | c + 1 => by
    have i := two_five c
    rw [Nat.pow_succ]
    omega
theorem five_odd : ∀ a : Nat, 5 ^ a % 2 = 1
  | 0 => by decide
  | a + 1 => by
    have i := five_odd a
    rw [Nat.pow_succ]
    omega
/-- It is exact from 0 to 55, and nowhere else. -/
theorem pw_exact {e : Int} {M : Nat} {E : Int} (h : Pw e M E) : vE (pN e) (pD e) 0 M E ↔ (0 ≤ e ∧ e ≤ 55) := by
  obtain ⟨s, hs⟩ : ∃ s, s = e - E := ⟨_, rfl⟩
  have eE : E = e - s := by omega
  have k := fun A => pw_scale (a := e.toNat) (b := (-e).toNat) (c := s.toNat) (d := (-s).toNat) (M := A) (e := e) (s := s) (by omega) (by omega) (pN_five e) (pD_five e)
  obtain ⟨h1, h2, h3, h4⟩ := h
  rw [eE] at h3 h4 ⊢
  rw [(k M).1] at h3
  rw [(k (M + 1)).1] at h4
  rw [(k M).2]
  by_cases c : 0 ≤ e
  · rw [show (-e).toNat = 0 from by omega, Nat.pow_zero, Nat.one_mul] at h3 h4 ⊢
    by_cases c2 : 0 ≤ s
    · rw [show (-s).toNat = 0 from by omega, Nat.pow_zero, Nat.mul_one] at h3 h4 ⊢
      refine ⟨fun _ => ⟨c, ?_⟩, fun _ => by omega⟩
      apply Int.not_lt.1
      intro c3
      have a : 5 ^ 56 ≤ 5 ^ e.toNat := Nat.pow_le_pow_right (by omega) (by omega)
      have b := Nat.le_mul_of_pos_right (5 ^ e.toNat) (Nat.two_pow_pos s.toNat)
      have d : 2 ^ 128 ≤ 5 ^ 56 := by decide
      omega
    · rw [show s.toNat = 0 from by omega, Nat.pow_zero, Nat.mul_one] at h3 h4 ⊢
      have o := five_odd e.toNat
      have t : 2 ^ (-s).toNat = 2 * 2 ^ ((-s).toNat - 1) := by
        rw [show (-s).toNat = (-s).toNat - 1 + 1 from by omega, Nat.pow_succ, Nat.add_sub_cancel]; omega
      have tp := Nat.two_pow_pos ((-s).toNat - 1)
      rw [t] at h3 h4 ⊢
      generalize 2 ^ ((-s).toNat - 1) = z at *
      refine ⟨fun q => ?_, fun q => ?_⟩
      · exfalso
        rw [q, show M * (2 * z) = 2 * (M * z) from Nat.mul_left_comm _ _ _] at o
        omega
      · exfalso
        have a : 5 ^ e.toNat ≤ 5 ^ 55 := Nat.pow_le_pow_right (by omega) (by omega)
        have d : 5 ^ 55 < 2 ^ 128 := by decide
        have m := Nat.mul_le_mul h1 (show 2 * 1 ≤ 2 * z from by omega)
        omega
  · rw [show e.toNat = 0 from by omega, Nat.pow_zero, Nat.one_mul]
    refine ⟨fun q => ?_, fun q => absurd q.1 c⟩
    exfalso
    have o := two_five s.toNat
    rw [q, show (-e).toNat = (-e).toNat - 1 + 1 from by omega, Nat.pow_succ] at o
    refine o ?_
    rw [show M * (5 ^ ((-e).toNat - 1) * 5 * 2 ^ (-s).toNat) = 5 * (M * (5 ^ ((-e).toNat - 1) * 2 ^ (-s).toNat)) from by
      generalize 5 ^ ((-e).toNat - 1) = y
      generalize 2 ^ (-s).toNat = z
      rw [Nat.mul_comm y 5, Nat.mul_assoc 5 y, Nat.mul_left_comm]]
    exact Nat.mul_mod_right _ _
theorem lE_dn {m m' : Nat} {x x' : Int} (c : x' ≤ x) (h : m * 2 ^ (x - x').toNat ≤ m') : lE m x m' x' := by
  refine ⟨x', c, Int.le_refl _, ?_⟩
  unfold ev
  rw [Int.sub_self, show (0 : Int).toNat = 0 from rfl, Nat.pow_zero, Nat.mul_one]
  exact h
theorem vL_ten {e : Int} {m : Nat} {x : Int} : vL (pN (e + 1)) (pD (e + 1)) 0 m x ↔ vL (pN e * 10) (pD e) 0 m x := by
  refine vL_iff (pD_pos _) (pD_pos _) ?_
  have k : pN (e + 1) * pD e = pN e * 10 * pD (e + 1) := by
    unfold pN pD
    by_cases c : 0 ≤ e
    · rw [show (e + 1).toNat = e.toNat + 1 from by omega, show (-e).toNat = 0 from by omega, show (-(e + 1)).toNat = 0 from by omega, Nat.pow_succ]
    · rw [show (e + 1).toNat = 0 from by omega, show e.toNat = 0 from by omega, show (-e).toNat = (-(e + 1)).toNat + 1 from by omega, Nat.pow_succ, Nat.pow_zero, Nat.one_mul, Nat.one_mul, Nat.mul_comm]
  rw [k]
  exact Eqv.rfl' _ _
theorem vL_mul {n d m : Nat} {x : Int} : vL (n * 10) d 0 (m * 10) x ↔ vL n d 0 m x := by
  have g : ∀ K, (ev K (n * 10) 0 < d * ev K (m * 10) x) ↔ (ev K n 0 < d * ev K m x) := by
    intro K
    have e1 : ev K (n * 10) 0 = ev K n 0 * 10 := by unfold ev; rw [Nat.mul_right_comm]
    have e2 : d * ev K (m * 10) x = d * ev K m x * 10 := by unfold ev; rw [Nat.mul_right_comm m 10, ← Nat.mul_assoc]
    rw [e1, e2]
    omega
  constructor
  · rintro ⟨K, a, b, h⟩; exact ⟨K, a, b, (g K).1 h⟩
  · rintro ⟨K, a, b, h⟩; exact ⟨K, a, b, (g K).2 h⟩
/-- The next power is ten times this one, but for what is cut off. -/
theorem Pw.step {e : Int} {M M' : Nat} {E E' : Int} (h : Pw e M E) (h' : Pw (e + 1) M' E') :
    ∃ t : Nat, (t = 3 ∨ t = 4) ∧ E' = E + t ∧ M * 10 < 2 ^ 128 * 2 ^ t ∧ M * 10 / 2 ^ t ≤ M' ∧ M' ≤ M * 10 / 2 ^ t + 2 := by
  obtain ⟨h1, h2, h3, h4⟩ := h
  obtain ⟨g1, g2, g3, g4⟩ := h'
  rw [vL_ten] at g3 g4
  rw [← vL_mul] at h3 h4
  have hi : E' ≤ E + 4 := by
    refine Int.not_lt.1 (fun c => g3 (h4.up (lE_of (by omega) ?_)))
    have t : 2 ^ 5 ≤ 2 ^ (E' - E).toNat := Nat.pow_le_pow_right (by omega) (by omega)
    have q := Nat.mul_le_mul g1 t
    omega
  have lo : E + 3 ≤ E' := by
    refine Int.not_lt.1 (fun c => h3 (g4.up ?_))
    by_cases k : E' ≤ E
    · refine lE_of k ?_
      have q := Nat.le_mul_of_pos_right (M * 10) (Nat.two_pow_pos (E - E').toNat)
      omega
    · refine lE_dn (by omega) ?_
      have t : 2 ^ (E' - E).toNat ≤ 2 ^ 2 := Nat.pow_le_pow_right (by omega) (by omega)
      have q := Nat.mul_le_mul (show M' + 1 ≤ 2 ^ 128 from g2) t
      omega
  obtain ⟨t, ht⟩ : ∃ t : Nat, E' = E + t := ⟨(E' - E).toNat, by omega⟩
  have b1 : M * 10 < (M' + 1) * 2 ^ t := by
    apply Nat.lt_of_not_le
    intro c
    refine h3 (g4.up (lE_dn (by omega) ?_))
    rw [show (E' - E).toNat = t from by omega]
    exact c
  have b2 : M' * 2 ^ t < (M + 1) * 10 := by
    apply Nat.lt_of_not_le
    intro c
    refine g3 (h4.up (lE_of (by omega) ?_))
    rw [show (E' - E).toNat = t from by omega]
    exact c
  have tt : t = 3 ∨ t = 4 := by omega
  refine ⟨t, tt, ht, ?_, ?_, ?_⟩
  · exact Nat.lt_of_lt_of_le b1 (Nat.mul_le_mul_right _ g2)
  · exact Nat.le_of_lt_succ ((Nat.div_lt_iff_lt_mul (Nat.two_pow_pos t)).2 b1)
  · rcases tt with rfl | rfl
    · simp only [Nat.reducePow] at b1 b2 ⊢
      omega
    · simp only [Nat.reducePow] at b1 b2 ⊢
      omega
/-- How many binary digits a power of ten has ahead of its point. -/
theorem Pw.bits {e : Int} {M : Nat} {E : Int} (h : Pw e M E) : Fst (pN e) (pD e) (E + 127) := by
  obtain ⟨h1, h2, h3, h4⟩ := h
  refine ⟨fun c => h3 (c.up ?_), h4.up ?_⟩
  · refine lE_dn (by omega) ?_
    rw [show (E + 127 - E).toNat = 127 from by omega, Nat.one_mul]
    exact h1
  · refine lE_of (by omega) ?_
    rw [show (E + 127 + 1 - E).toNat = 128 from by omega, Nat.one_mul]
    exact h2
theorem Fst.uniq {n d : Nat} {E E' : Int} (h : Fst n d E) (h' : Fst n d E') : E = E' := by
  have key : ∀ {A B : Int}, Fst n d A → Fst n d B → A ≤ B := by
    intro A B ha hb
    refine Int.not_lt.1 (fun c => ha.1 (hb.2.up ?_))
    refine lE_of (by omega) ?_
    have := Nat.two_pow_pos (A - (B + 1)).toNat
    omega
  have := key h h'
  have := key h' h
  omega
end Go.Proofs.YtkmnkogbafhfdaaDoor
