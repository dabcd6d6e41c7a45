/-
  Holds: UIeN.
-/
import Derived.Laws.BitsAllLaws
import Derived.Laws.FloatArith
import Derived.Test.YtiminkommimgdabGreatDoorZ8
set_option maxRecDepth 100000
set_option maxHeartbeats 4000000
namespace Go.Proofs.YtiminkommimgdabGreatDoor
def Is (f T : Nat) (L : Int) (n b : Nat) : Prop := b < T * 2 ^ f ∧ Eqv n 0 (mt f b) (xp f L b)
theorem Is.rd {f T : Nat} (hf : 0 < f) {L : Int} {n b : Nat} (n0 : n ≠ 0) (h : Is f T L n b) : rdA f T L n 1 0 false = (b, false) := by
 have v : vE n 1 0 (mt f b) (xp f L b) := by
  obtain ⟨K, a, c, q⟩ := h.2
  exact ⟨K, a, c, by rw [Nat.one_mul]; exact q⟩
 rw [rdA_of hf n0 (by decide) (RD_val false (by decide) v), if_pos h.1]
theorem is_of {f T : Nat} {L : Int} {n m k : Nat} (hn : n = m * 2 ^ k) (m0 : m ≠ 0) (hm : m < 2 ^ (f + 1)) (hL : L ≤ 0) (hT : (k : Int) - L + 2 ≤ T) : ∃ b, Is f T L n b := by
 have l1 : 2 ^ m.log2 ≤ m := Nat.log2_self_le m0
 have l2 : m < 2 ^ (m.log2 + 1) := Nat.lt_log2_self
 have lf : m.log2 ≤ f := by
  have a : 2 ^ m.log2 < 2 ^ (f + 1) := Nat.lt_of_le_of_lt l1 hm
  have := (Nat.pow_lt_pow_iff_right (by decide : 1 < 2)).1 a
  omega
 obtain ⟨t, ht⟩ : ∃ t : Nat, t = min (f - m.log2) ((k : Int) - L).toNat := ⟨_, rfl⟩
 have g : Good f L (m * 2 ^ t) ((k : Int) - t) := by
  refine ⟨?_, by omega, ?_⟩
  · have a := Nat.mul_lt_mul_of_pos_right l2 (Nat.two_pow_pos t)
    rw [← Nat.pow_add] at a
    exact Nat.lt_of_lt_of_le a (Nat.pow_le_pow_right (by decide) (by omega))
  · by_cases c : f - m.log2 ≤ ((k : Int) - L).toNat
    · left
      have a := Nat.mul_le_mul_right (2 ^ t) l1
      rw [← Nat.pow_add, show m.log2 + t = f from by omega] at a
      exact a
    · right
      omega
 obtain ⟨p1, p2⟩ := ly_parts g
 refine ⟨ly f L (m * 2 ^ t) ((k : Int) - t), ?_, ?_⟩
 · unfold ly
   have a := g.1
   rw [Nat.pow_succ] at a
   have b : (((k : Int) - t - L).toNat + 2) * 2 ^ f ≤ T * 2 ^ f := Nat.mul_le_mul_right _ (by omega)
   rw [Nat.add_mul] at b
   omega
 · rw [p1, p2, hn]
   have a := Eqv.shl m (k : Int) t
   have b := Eqv.shl m (k : Int) k
   rw [Int.sub_self] at b
   exact b.symm.trans a
theorem eqv_mul {a b a' b' : Nat} {x y x' y' : Int} (h : Eqv a x a' x') (k : Eqv b y b' y') : Eqv (a * b) (x + y) (a' * b') (x' + y') := by
 have p := h.all (min x x') (by omega) (by omega)
 have q := k.all (min y y') (by omega) (by omega)
 refine ⟨min x x' + min y y', by omega, by omega, ?_⟩
 unfold ev at p q ⊢
 rw [show (x + y - (min x x' + min y y')).toNat = (x - min x x').toNat + (y - min y y').toNat from by omega, show (x' + y' - (min x x' + min y y')).toNat = (x' - min x x').toNat + (y' - min y y').toNat from by omega, Nat.pow_add, Nat.pow_add]
 rw [Nat.mul_mul_mul_comm, p, q, Nat.mul_mul_mul_comm]
theorem mul_is {F : Ieee.Format} {f T : Nat} {L : Int} (h : FmtN F f T L) {n m x y : Nat} (hx : Is f T L n x) (hy : Is f T L m y) : F.mul x y = some (rdA f T L (n * m) 1 0 false).1 := by
 rw [mul_rd h hx.1 hy.1]
 congr 2
 refine rdA_same h.fpos (by decide) (by decide) ?_
 have e := eqv_mul hx.2 hy.2
 rw [Nat.mul_one, Nat.mul_one]
 rw [Int.add_zero] at e
 exact e.symm
theorem eqv_flip {n m a b : Nat} {x y : Int} (hx : Eqv n 0 a x) (hy : Eqv m 0 b y) : Eqv (a * m) (x - y) (n * b) 0 := by
 have p := hx.all (min x (min 0 y)) (by omega) (by omega)
 have q := hy.all (min y (min 0 x)) (by omega) (by omega)
 refine ⟨min x (min 0 y) + min (-y) (min 0 (-x)) + min 0 y + min 0 x, by omega, by omega, ?_⟩
 have e1 := eqv_mul hx (Eqv.symm hy)
 have z := e1.symm
 have d := z.all (min x (min 0 y) + min y (min 0 x)) (by omega) (by omega)
 clear p q
 unfold ev at d ⊢
 obtain ⟨K, hK⟩ : ∃ K, K = min x (min 0 y) + min y (min 0 x) := ⟨_, rfl⟩
 obtain ⟨J, hJ⟩ : ∃ J, J = min x (min 0 y) + min (-y) (min 0 (-x)) + min 0 y + min 0 x := ⟨_, rfl⟩
 rw [← hK] at d
 rw [← hJ]
 rw [Int.add_zero, Int.zero_add] at d
 have s : (x - K).toNat = (x - y - (K - y)).toNat := by omega
 have s2 : (y - K).toNat = (0 - (K - y)).toNat := by omega
 rw [s, s2] at d
 have w1 : J ≤ K - y ∨ K - y ≤ J := by omega
 rcases w1 with c | c
 · rw [show (x - y - J).toNat = (x - y - (K - y)).toNat + (K - y - J).toNat from by omega, show (0 - J).toNat = (0 - (K - y)).toNat + (K - y - J).toNat from by omega, Nat.pow_add, Nat.pow_add, ← Nat.mul_assoc, ← Nat.mul_assoc, d]
 · have hp := Nat.two_pow_pos (J - (K - y)).toNat
   rw [show (x - y - (K - y)).toNat = (x - y - J).toNat + (J - (K - y)).toNat from by omega, show (0 - (K - y)).toNat = (0 - J).toNat + (J - (K - y)).toNat from by omega, Nat.pow_add, Nat.pow_add, ← Nat.mul_assoc, ← Nat.mul_assoc] at d
   exact Nat.eq_of_mul_eq_mul_right hp d
theorem Is.ne {f T : Nat} {L : Int} {n b : Nat} (n0 : n ≠ 0) (h : Is f T L n b) : b ≠ 0 := by
 rintro rfl
 refine h.2.pos n0 ?_
 unfold mt
 rw [Nat.zero_div]
 rfl
theorem div_is {F : Ieee.Format} {f T : Nat} {L : Int} (h : FmtN F f T L) {n m x y : Nat} (n0 : n ≠ 0) (m0 : m ≠ 0) (hx : Is f T L n x) (hy : Is f T L m y) : F.div x y = some (rdA f T L n m 0 false).1 := by
 rw [div_rd h hx.1 hy.1 (hx.ne n0) (hy.ne m0)]
 congr 2
 refine rdA_same h.fpos (hy.2.pos m0) m0 ?_
 exact eqv_flip hx.2 hy.2
theorem ofInt_rd {k : FloatKind} {f T : Nat} {L : Int} (h : FmtN k.format f T L) (n : Nat) : floatOfInt k (n : Int) = (rdA f T L n 1 0 false).1 := by
 unfold floatOfInt FloatKind.nearest FloatKind.encode
 rw [show decide ((n : Int) < 0) = false from decide_eq_false (by omega), Int.natAbs_natCast]
 show k.format.nearest false n 0 = _
 exact nearest_rd h n 0
theorem ofInt_is {k : FloatKind} {f T : Nat} {L : Int} (h : FmtN k.format f T L) {n b : Nat} (n0 : n ≠ 0) (hb : Is f T L n b) : floatOfInt k (n : Int) = b := by
 rw [ofInt_rd h, hb.rd h.fpos n0]
theorem fmtF32 : FmtN FloatKind.f32.format 23 255 (-149) := fmt32
theorem fmtF64 : FmtN FloatKind.f64.format 52 2047 (-1074) := fmt64
theorem is_small64 {n : Nat} (n0 : n ≠ 0) (h : n ≤ 9007199254740992) : ∃ b, Is 52 2047 (-1074) n b := by
 by_cases c : n = 9007199254740992
 · exact is_of (m := 1) (k := 53) (by rw [c]) (by decide) (by decide) (by decide) (by decide)
 · exact is_of (m := n) (k := 0) (by rw [Nat.pow_zero, Nat.mul_one]) n0 (by simp only [Nat.reduceAdd, Nat.reducePow]; omega) (by decide) (by decide)
theorem is_small32 {n : Nat} (n0 : n ≠ 0) (h : n ≤ 16777216) : ∃ b, Is 23 255 (-149) n b := by
 by_cases c : n = 16777216
 · exact is_of (m := 1) (k := 24) (by rw [c]) (by decide) (by decide) (by decide) (by decide)
 · exact is_of (m := n) (k := 0) (by rw [Nat.pow_zero, Nat.mul_one]) n0 (by simp only [Nat.reduceAdd, Nat.reducePow]; omega) (by decide) (by decide)
theorem ten_split (k : Nat) : 10 ^ k = 5 ^ k * 2 ^ k := by rw [← Nat.mul_pow]
theorem is_ten64 {k : Nat} (h : k ≤ 22) : ∃ b, Is 52 2047 (-1074) (10 ^ k) b := by
 refine is_of (ten_split k) (Nat.ne_of_gt (Nat.pow_pos (by decide))) ?_ (by decide) (by omega)
 exact Nat.lt_of_le_of_lt (Nat.pow_le_pow_right (by decide) h) (by decide)
theorem is_ten32 {k : Nat} (h : k ≤ 10) : ∃ b, Is 23 255 (-149) (10 ^ k) b := by
 refine is_of (ten_split k) (Nat.ne_of_gt (Nat.pow_pos (by decide))) ?_ (by decide) (by omega)
 exact Nat.lt_of_le_of_lt (Nat.pow_le_pow_right (by decide) h) (by decide)
theorem Is.uniq {f T : Nat} (hf : 0 < f) {L : Int} {n b b' : Nat} (n0 : n ≠ 0) (h : Is f T L n b) (h' : Is f T L n b') : b = b' := by
 have e := (h.rd hf n0).symm.trans (h'.rd hf n0)
 exact congrArg Prod.fst e
theorem mul_held {F : Ieee.Format} {f T : Nat} {L : Int} (h : FmtN F f T L) {n m x y b : Nat} (n0 : n ≠ 0) (m0 : m ≠ 0) (hx : Is f T L n x) (hy : Is f T L m y) (hb : Is f T L (n * m) b) : F.mul x y = some b := by
 rw [mul_is h hx hy, hb.rd h.fpos (Nat.mul_ne_zero n0 m0)]
end Go.Proofs.YtiminkommimgdabGreatDoor
