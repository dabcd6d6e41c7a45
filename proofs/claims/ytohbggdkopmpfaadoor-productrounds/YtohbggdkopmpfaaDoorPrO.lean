/-
  A number times a power of ten, by the power cut off behind 128 bits: where it lies, and what it is rounded to where both ends are rounded to the same. No program in sight.
-/
import Derived.Test.YtohbggdkopmpfaaDoorPrN
import Derived.Test.YtohbggdkopmpfaaDoorPwM
namespace Go.Proofs.YtohbggdkopmpfaaDoor

theorem ev_mul (K : Int) (a m : Nat) (x : Int) : ev K (a * m) x = a * ev K m x := by unfold ev; rw [Nat.mul_assoc]
theorem not_vL_at {n d m : Nat} {e x : Int} (h : ¬ vL n d e m x) (K : Int) (h1 : K ≤ e) (h2 : K ≤ x) : d * ev K m x ≤ ev K n e := by
  apply Nat.le_of_not_lt
  intro c
  exact h ⟨K, h1, h2, c⟩
/-- Not below the product with the power cut off, below the product with one more. -/
theorem Pw.lo {e : Int} {M : Nat} {E : Int} (h : Pw e M E) (m : Nat) : fLe (m * M) 1 E (m * pN e) (pD e) 0 := by
  obtain ⟨K, hK⟩ : ∃ K, K = min 0 E := ⟨_, rfl⟩
  refine ⟨K, by omega, by omega, ?_⟩
  have a := not_vL_at h.2.2.1 K (by omega) (by omega)
  rw [ev_mul, ev_mul, Nat.mul_one, Nat.mul_assoc, Nat.mul_comm (ev K M E)]
  exact Nat.mul_le_mul_left m a
theorem Pw.hi {e : Int} {M : Nat} {E : Int} (h : Pw e M E) {m : Nat} (m0 : 0 < m) : fLt (m * pN e) (pD e) 0 (m * (M + 1)) 1 E := by
  obtain ⟨K, hK⟩ : ∃ K, K = min 0 E := ⟨_, rfl⟩
  refine ⟨K, by omega, by omega, ?_⟩
  have a := h.2.2.2.at K (by omega) (by omega)
  rw [ev_mul, ev_mul, Nat.mul_one, Nat.mul_assoc, Nat.mul_comm (ev K (M + 1) E)]
  exact Nat.mul_lt_mul_of_pos_left a m0
/-- Exact: the product is the number. -/
theorem pw_same {e : Int} {M : Nat} {E : Int} (h : vE (pN e) (pD e) 0 M E) (m : Nat) : Eqv (m * pN e * 1) 0 (m * M * pD e) E := by
  obtain ⟨K, hK⟩ : ∃ K, K = min 0 E := ⟨_, rfl⟩
  refine ⟨K, by omega, by omega, ?_⟩
  have a := h.at K (by omega) (by omega)
  rw [Nat.mul_one, ev_mul, a, Nat.mul_assoc, ev_mul, Nat.mul_comm M (pD e), ev_mul]
theorem prod_exact {f : Nat} {L e E t : Int} {M m b : Nat} (h : vE (pN e) (pD e) 0 M E) : RDT f L (m * pN e) (pD e) 0 t b ↔ RDT f L (m * M) 1 E t b := RDT_iff (pD_pos e) Nat.one_pos (pw_same h m) b
theorem fLt.both {n d n' d' n2 d2 : Nat} {e e' e2 : Int} (h : fLe n d e n' d' e') (k : fLt n' d' e' n2 d2 e2) (d0 : 0 < d) : fLt n d e n2 d2 e2 := by
  obtain ⟨K, hK⟩ : ∃ K, K = min e (min e' e2) := ⟨_, rfl⟩
  refine ⟨K, by omega, by omega, ?_⟩
  have a := h.at K (by omega) (by omega)
  have b := k.at K (by omega) (by omega)
  have a2 := Nat.mul_le_mul_right d2 a
  have b2 := Nat.mul_lt_mul_of_pos_right b d0
  have c : ev K n e * d2 * d' < ev K n2 e2 * d * d' := by
    calc ev K n e * d2 * d' = ev K n e * d' * d2 := Nat.mul_right_comm _ _ _
      _ ≤ ev K n' e' * d * d2 := a2
      _ = ev K n' e' * d2 * d := Nat.mul_right_comm _ _ _
      _ < ev K n2 e2 * d' * d := b2
      _ = ev K n2 e2 * d * d' := Nat.mul_right_comm _ _ _
  exact Nat.lt_of_mul_lt_mul_right c
theorem fLt_more {n d : Nat} {e : Int} {m m' : Nat} (n0 : 0 < n) (d0 : 0 < d) (h : m < m') : fLt (m * n) d e (m' * n) d e := by
  refine ⟨e, Int.le_refl _, Int.le_refl _, ?_⟩
  rw [ev_self, ev_self]
  exact Nat.mul_lt_mul_of_pos_right (Nat.mul_lt_mul_of_pos_right h n0) d0
/-- Both ends are rounded to the same float: so is the number, and what lies a little above it. -/
theorem prod_sure {f : Nat} {L e E t c1 : Int} {M m b c : Nat} (h : Pw e M E) (m0 : 0 < m) (hc : c1 ≤ t) (k1 : RDT f L (m * M) 1 E c1 b) (k2 : RDT f L (m * (M + 1)) 1 E (-1) b) (k : RDT f L (m * pN e) (pD e) 0 t c) : c = b :=
  RDT.between (pD_pos e) Nat.one_pos Nat.one_pos (h.lo m) (.inl hc) (h.hi m0).le (.inr (h.hi m0)) k1 k2 k
/-- With more: the number and a little more, one more of it and a little less. -/
theorem prod_more {f : Nat} {L e E c1 : Int} {M m b c : Nat} (h : Pw e M E) (k1 : RDT f L (m * M) 1 E c1 b) (k2 : RDT f L ((m + 1) * (M + 1)) 1 E (-1) b) :
    (c1 ≤ 1 → RDT f L (m * pN e) (pD e) 0 1 c → c = b) ∧ (RDT f L ((m + 1) * pN e) (pD e) 0 (-1) c → c = b) := by
  have s1 : fLt (m * M) 1 E ((m + 1) * pN e) (pD e) 0 := fLt.both (h.lo m) (fLt_more (pN_pos e) (pD_pos e) (Nat.lt_succ_self m)) Nat.one_pos
  have s2 := h.hi (m := m + 1) (Nat.succ_pos m)
  have s3 : fLt (m * pN e) (pD e) 0 ((m + 1) * (M + 1)) 1 E := by
    refine fLt.both ?_ s2 (pD_pos e)
    exact (fLt_more (pN_pos e) (pD_pos e) (Nat.lt_succ_self m)).le
  exact ⟨fun hc k => RDT.between (pD_pos e) Nat.one_pos Nat.one_pos (h.lo m) (.inl hc) s3.le (.inr s3) k1 k2 k,
    fun k => RDT.between (pD_pos e) Nat.one_pos Nat.one_pos s1.le (.inr s1) s2.le (.inr s2) k1 k2 k⟩
/-- With more and an exact power. -/
theorem exact_more {f : Nat} {L e E : Int} {M m b c : Nat} (h : vE (pN e) (pD e) 0 M E) (k1 : RDT f L (m * M) 1 E 1 b) (k2 : RDT f L ((m + 1) * M) 1 E (-1) b) :
    (RDT f L (m * pN e) (pD e) 0 1 c → c = b) ∧ (RDT f L ((m + 1) * pN e) (pD e) 0 (-1) c → c = b) :=
  ⟨fun k => ((prod_exact h).1 k).uniq Nat.one_pos k1, fun k => ((prod_exact h).1 k).uniq Nat.one_pos k2⟩
/-- A product's bits: what is kept, what is left. -/
theorem keep_RDT {f : Nat} (hf : 0 < f) {L E t : Int} {P s : Nat} (g : Good f L (P / 2 ^ s) (E + s)) : RDT f L P 1 E t (ly f L (rQT t (P / 2 ^ s) (P % 2 ^ s) (2 ^ s)) (E + s)) := by
  refine quo_RDT hf t Nat.one_pos (Nat.mod_lt _ (Nat.two_pow_pos s)) g ?_
  rw [Nat.div_add_mod', Nat.mul_one]
  refine ⟨E, Int.le_refl _, by omega, ?_⟩
  rw [ev_self]
  unfold ev
  rw [show (E + (s : Int) - E).toNat = s from by omega]
end Go.Proofs.YtohbggdkopmpfaaDoor
