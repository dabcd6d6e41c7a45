/-
  ProductRounds: the document's At, Above, Right, Must; product's Sure; the law.
-/
import Derived.Test.YtohbggdkopmpfaaDoorLawPdA
import Derived.Test.YtohbggdkopmpfaaDoorPpNm
import Derived.Deep.DeepCutAuto
namespace Go.Proofs.YtohbggdkopmpfaaDoor
open Go.RowKit

theorem nrt_exists {f T : Nat} (hf : 0 < f) (hT : 0 < T) {L : Int} {n d : Nat} {e : Int} (t : Int) (d0 : d ≠ 0) : ∃ x, NrT f T L n d e t x := by
  by_cases n0 : n = 0
  · subst n0
    exact ⟨0, NrT_nought (Nat.pos_of_ne_zero d0) hT⟩
  · obtain ⟨b, hb⟩ := rdt_exists hf (L := L) (e := e) t n0 d0
    exact ⟨_, b, hb, rfl⟩
theorem nrt_up {f T : Nat} (hf : 0 < f) (hT : 1 ≤ T) {L : Int} (hL : (f : Int) + L + T ≤ 1100) {m : Nat} (m0 : 0 < m) (t : Int) : NrT f T L (m * pN 400) (pD 400) 0 t (T * 2 ^ f) := by
  obtain ⟨x, hx⟩ := nrt_exists hf hT (L := L) (n := m * pN 400) (d := pD 400) (e := 0) t (Nat.ne_of_gt (pD_pos 400))
  rw [far_up hf hT hL m0 hx] at hx
  exact hx
theorem nrt_dn {f T : Nat} (hf : 0 < f) (hT : 1 ≤ T) {L : Int} (hL : -1099 ≤ L - 1) {m : Nat} (hm : m ≤ 2 ^ 64) (t : Int) : NrT f T L (m * pN (-400)) (pD (-400)) 0 t 0 := by
  obtain ⟨x, hx⟩ := nrt_exists hf hT (L := L) (n := m * pN (-400)) (d := pD (-400)) (e := 0) t (Nat.ne_of_gt (pD_pos (-400)))
  rw [far_dn hf hT hL hm hx] at hx
  exact hx
theorem upN_more (M m : Nat) (X : Bool) : upN M m X true = (m + 1) * upM M X := by
  unfold upN
  rw [if_pos rfl, Nat.add_mul, Nat.one_mul, Nat.mul_comm]
theorem upN_less (M m : Nat) (X : Bool) : upN M m X false = m * upM M X := by
  unfold upN
  rw [if_neg (by decide), Nat.add_zero, Nat.mul_comm]
theorem Rnd.right0 {f T : Nat} (hT : 0 < T) {L c : Int} {m x : Nat} (h : Rnd f T L c m false x true) {y : Nat} (hy : NrT f T L (m * pN c) (pD c) 0 0 y) : y = x := by
  obtain ⟨M, E, hP, h⟩ := h
  have ex := pw_exact hP
  rw [upN_less, Nat.mul_comm M m] at h
  by_cases X : 0 ≤ c ∧ c ≤ 55
  · rw [decide_eq_true X] at h
    rcases h with ⟨_, _, h⟩ | ⟨h, _⟩
    · exact hy.uniq (pD_pos c) ((NrT_iff (pD_pos c) Nat.one_pos (pw_same (ex.2 X) m) x).2 h)
    · exact absurd rfl h
  · rw [decide_eq_false X] at h
    have hx : ¬ vE (pN c) (pD c) 0 M E := fun z => X (ex.1 z)
    rcases h with ⟨e, _, h⟩ | ⟨e, a, b, ha, hb, k⟩
    · have m0 : m = 0 := by
        unfold upM at e
        rw [if_neg (by decide), Nat.mul_add, Nat.mul_one] at e
        omega
      subst m0
      rw [Nat.zero_mul] at h hy
      rw [hy.uniq (pD_pos c) (NrT_nought (pD_pos c) hT), h.uniq Nat.one_pos (NrT_nought Nat.one_pos hT)]
    · have m0 : 0 < m := by
        rcases Nat.eq_zero_or_pos m with z | z
        · exact absurd (by rw [z, Nat.zero_mul, Nat.zero_mul]) e
        · exact z
      rcases k with ⟨rfl, _, rfl⟩ | ⟨_, k, _⟩
      · unfold upM at hb
        rw [if_neg (by decide)] at hb
        have lt := hP.lt hx m0
        exact NrT.between (pD_pos c) Nat.one_pos Nat.one_pos lt.le (.inr lt) (hP.hi m0).le (.inr (hP.hi m0)) ha hb hy
      · cases k
theorem Rnd.right1 {f T : Nat} {L c : Int} {m x : Nat} (h : Rnd f T L c m true x true) : (∀ y, NrT f T L (m * pN c) (pD c) 0 1 y → y = x) ∧ (∀ y, NrT f T L ((m + 1) * pN c) (pD c) 0 (-1) y → y = x) := by
  obtain ⟨M, E, hP, h⟩ := h
  have ex := pw_exact hP
  have M0 : 0 < M := Nat.lt_of_lt_of_le (Nat.two_pow_pos 127) hP.1
  rw [upN_more, Nat.mul_comm M m] at h
  have ne : ∀ X, m * M ≠ (m + 1) * upM M X := by
    intro X e
    have a : m * M ≤ m * upM M X := Nat.mul_le_mul_left m (by unfold upM; split <;> omega)
    have b : 0 < upM M X := by unfold upM; split <;> omega
    rw [Nat.add_mul, Nat.one_mul] at e
    omega
  rcases h with ⟨e, _⟩ | ⟨_, a, b, ha, hb, k⟩
  · exact absurd e (ne _)
  · rcases k with ⟨rfl, _, rfl⟩ | ⟨_, k, _⟩
    · by_cases X : 0 ≤ c ∧ c ≤ 55
      · rw [decide_eq_true X] at hb
        have hb2 : NrT f T L ((m + 1) * M) 1 E (-1) x := hb
        refine ⟨fun y hy => hy.uniq (pD_pos c) ((NrT_iff (pD_pos c) Nat.one_pos (pw_same (ex.2 X) m) x).2 ha), fun y hy => hy.uniq (pD_pos c) ((NrT_iff (pD_pos c) Nat.one_pos (pw_same (ex.2 X) (m + 1)) x).2 hb2)⟩
      · rw [decide_eq_false X] at hb
        have hb2 : NrT f T L ((m + 1) * (M + 1)) 1 E (-1) x := hb
        have s1 : fLt (m * M) 1 E ((m + 1) * pN c) (pD c) 0 := fLt.both (hP.lo m) (fLt_more (pN_pos c) (pD_pos c) (Nat.lt_succ_self m)) Nat.one_pos
        have s2 := hP.hi (m := m + 1) (Nat.succ_pos m)
        have s3 : fLt (m * pN c) (pD c) 0 ((m + 1) * (M + 1)) 1 E := fLt.both (fLt_more (pN_pos c) (pD_pos c) (Nat.lt_succ_self m)).le s2 (pD_pos c)
        exact ⟨fun y hy => NrT.between (pD_pos c) Nat.one_pos Nat.one_pos (hP.lo m) (.inl (Int.le_refl _)) s3.le (.inr s3) ha hb2 hy,
          fun y hy => NrT.between (pD_pos c) Nat.one_pos Nat.one_pos s1.le (.inr s1) s2.le (.inr s2) ha hb2 hy⟩
    · cases k
theorem Rnd.unsure {f T : Nat} {L c : Int} {m x : Nat} {more : Bool} (h : Rnd f T L c m more x false) : x = 0 := by
  obtain ⟨M, E, _, ⟨_, k, _⟩ | ⟨_, a, b, _, _, ⟨_, k, _⟩ | ⟨_, _, k⟩⟩⟩ := h
  · cases k
  · cases k
  · exact k
theorem Rnd.must {f T : Nat} {L c : Int} {m x : Nat} (h : Rnd f T L c m false x false) : m ≠ 0 ∧ ¬ (0 ≤ c ∧ c ≤ 27) := by
  obtain ⟨M, E, _, ⟨_, k, _⟩ | ⟨e, _⟩⟩ := h
  · cases k
  · rw [upN_less, Nat.mul_comm M m] at e
    refine ⟨fun z => e (by rw [z, Nat.zero_mul, Nat.zero_mul]), fun z => e ?_⟩
    rw [decide_eq_true (show 0 ≤ c ∧ c ≤ 55 by omega)]
    rfl
theorem Rnd.one {f T : Nat} {L c : Int} {m x y : Nat} {more ok is : Bool} (h : Rnd f T L c m more x ok) (k : Rnd f T L c m more y is) : ok = is := by
  obtain ⟨M, E, hP, h⟩ := h
  obtain ⟨M', E', hP', k⟩ := k
  obtain ⟨rfl, rfl⟩ := hP.uniq hP'
  rcases h with ⟨e, h, _⟩ | ⟨e, a, b, ha, hb, h⟩ <;> rcases k with ⟨e', k, _⟩ | ⟨e', a', b', ha', hb', k⟩
  · rw [h, k]
  · exact absurd e e'
  · exact absurd e' e
  · obtain rfl := ha.uniq Nat.one_pos ha'
    obtain rfl := hb.uniq Nat.one_pos hb'
    rcases h with ⟨z, h, _⟩ | ⟨z, h, _⟩ <;> rcases k with ⟨z', k, _⟩ | ⟨z', k, _⟩
    · rw [h, k]
    · exact absurd z z'
    · exact absurd z' z
    · rw [h, k]
theorem clE_must {e : Int} (h : ¬ (0 ≤ clE e ∧ clE e ≤ 27)) : ¬ (0 ≤ e ∧ e ≤ 27) := by
  unfold clE at h
  omega

theorem ten_fits {k : Nat} (h : k ≤ 400) : Fits 60 (10 ^ k) := by
  have a : 10 ^ k ≤ 16 ^ k := Nat.pow_le_pow_left (by omega) k
  rw [show 16 = 2 ^ 4 from rfl, ← Nat.pow_mul] at a
  exact (two_fits (s := 4 * k) (k := 60) (by omega)).le a
theorem word_fits {x : Nat} (h : x ≤ 18446744073709551616) : Fits 3 x := (two_fits (s := 64) (k := 3) (by omega)).le h
theorem Fz.sizes {s : Int} {g n f T : Nat} {L : Int} (h : Fz s g n f T L) : 0 < f ∧ 1 ≤ T ∧ (f : Int) + L + T ≤ 1100 ∧ -1099 ≤ L - 1 := by
  rcases h with ⟨_, _, _, rfl, rfl, rfl⟩ | ⟨_, _, _, rfl, rfl, rfl⟩ <;> decide

set_option maxRecDepth 100000 in
set_option maxHeartbeats 4000000 in
theorem at_zu {s : Int} {g n f T : Nat} {L : Int} (hz : Fz s g n f T L) {e c : Int} (hc : c = clE e) (he : 400 < e) (w : World) :
    Calls Tryd.prog 15 #[.int .u64 0, .int .i64 e, .int .i64 s, .int .i64 1] w fun o w' => ∃ x : Nat, o = .returned (.int .u64 (x : Int)) ∧ NrT f T L (0 * pN c) (pD c) 0 1 x ∧ Below w.heap.size w w' := by
  have SM := fun W => dsmall_word 0 (by omega) W
  have HZ : Hid (Fz s g n f T L) := hz
  have HWF : Hid (Fits 3 0) := word_fits (by omega)
  have hc1 : -400 ≤ c := by rw [hc]; unfold clE; omega
  have hc2 : c ≤ 400 := by rw [hc]; unfold clE; omega
  have HC : Hid (c = clE e) := hc
  clear hc hz
  go_enter Tryd.func15, Tryd.ntmps15
  go_upto_region 7 with fail
  go_cut [1] (fun ev wx => wx = w ∧ ev = .int .i64 c)
  case first =>
    go_wp2
    all_goals first | (exfalso; omega) | skip
    all_goals go_meet
    all_goals exact ⟨rfl, congrArg (Value.int .i64) (by have := HC.out; unfold clE at this; omega)⟩
  case rest =>
  obtain ⟨hcw, rfl⟩ := hcut
  have hcw2 := hcw.symm
  subst hcw2
  clear HC
  rcases Int.lt_trichotomy c 0 with cc | cc | cc
  · obtain ⟨k, hk⟩ : ∃ k : Nat, -c = (k : Int) := ⟨(-c).toNat, by omega⟩
    have P1 := fun W => dpow_any 10 0 (by omega) (by omega) (by omega) W
    have P2 := fun W => dpow_any 10 k (by omega) (by omega) (by omega) W
    have eA : 10 ^ 0 = pN c := by unfold pN; rw [show (c : Int).toNat = 0 by omega]
    have eD : 10 ^ k = pD c := by unfold pD; rw [show (-c : Int).toNat = k by omega]
    have fA : Fits 60 (pN c) := by rw [← eA]; exact ten_fits (by omega)
    have fD : Fits 60 (pD c) := by rw [← eD]; exact ten_fits (by omega)
    rw [eA] at P1
    rw [eD] at P2
    simp only [Int.cast_ofNat_Int] at P1 P2
    have HFF : Hid (Fits 60 (pN c) ∧ Fits 60 (pD c) ∧ pD c ≠ 0) := ⟨fA, fD, Nat.ne_of_gt (pD_pos _)⟩
    clear eA eD fA fD
    generalize hA : pN c = A at *
    generalize hD : pD c = D at *
    have HAD : Hid (pN c = A ∧ pD c = D) := ⟨hA, hD⟩
    clear hA hD
    go_wp2_with fail
    all_goals first | (exfalso; omega) | skip
    refine (SM _).mono ?_
    rintro o w1 ⟨v1, rfl, n1, b1⟩
    have H1 : Hid (Big.D.NatV w1 v1 0 ∧ Below w.heap.size w w1) := ⟨n1, b1⟩
    clear b1 n1 SM
    go_wp2_with fail
    all_goals first | (exfalso; omega) | skip
    refine (P1 _).mono ?_
    rintro o w2 ⟨v2, rfl, n2, b2⟩
    have H2 : Hid (Big.D.NatV w2 v1 (0) ∧ Big.D.NatV w2 v2 A ∧ Below w.heap.size w w2) := ⟨H1.out.1.below b2, n2, H1.out.2.trans (b2.mono H1.out.2.size)⟩
    have ML := dmul_nat H2.out.1 H2.out.2.1 (HWF.out.up (by omega)) (HFF.out.1.up (by omega))
    clear b2 n2 P1 H1
    go_wp2_with fail
    all_goals first | (exfalso; omega) | skip
    refine ML.mono ?_
    rintro o w3 ⟨v3, rfl, n3, b3⟩
    have H3 : Hid (Big.D.NatV w3 v3 ((0) * A) ∧ Below w.heap.size w w3) := ⟨n3, H2.out.2.2.trans (b3.mono H2.out.2.2.size)⟩
    clear b3 n3 ML H2
    go_wp2_with fail
    all_goals first | (exfalso; omega) | skip
    refine (P2 _).mono ?_
    rintro o w4 ⟨v4, rfl, n4, b4⟩
    have H4 : Hid (Big.D.NatV w4 v3 ((0) * A) ∧ Big.D.NatV w4 v4 D ∧ Below w.heap.size w w4) := ⟨H3.out.1.below b4, n4, H3.out.2.trans (b4.mono H3.out.2.size)⟩
    have NR := near13 HZ.out H4.out.1 H4.out.2.1 HFF.out.2.2 ((HWF.out.mul HFF.out.1).up (by omega)) (HFF.out.2.1.up (by omega)) (t := 1) (.inr (.inr rfl))
    clear b4 n4 P2 H3
    go_wp2_with fail
    all_goals first | (exfalso; omega) | skip
    refine NR.mono ?_
    rintro o w5 ⟨x, ov, rfl, hx, b5⟩
    have H5 : Hid (NrT f T L ((0) * A) D 0 1 x ∧ Below w.heap.size w w5) := ⟨hx, H4.out.2.2.trans (b5.mono H4.out.2.2.size)⟩
    clear b5 hx NR H4
    go_wp2
    go_ret
    exact ⟨x, rfl, by first | exact H5.out.1 | (have q := H5.out.1; rw [← HAD.out.1, ← HAD.out.2] at q; exact q), H5.out.2⟩
  · subst cc
    have P1 := fun W => dpow_any 10 0 (by omega) (by omega) (by omega) W
    have P2 := fun W => dpow_any 10 0 (by omega) (by omega) (by omega) W
    have eA : 10 ^ 0 = pN 0 := by unfold pN; rw [show (0 : Int).toNat = 0 by omega]
    have eD : 10 ^ 0 = pD 0 := by unfold pD; rw [show (-0 : Int).toNat = 0 by omega]
    have fA : Fits 60 (pN 0) := by rw [← eA]; exact ten_fits (by omega)
    have fD : Fits 60 (pD 0) := by rw [← eD]; exact ten_fits (by omega)
    rw [eA] at P1
    rw [eD] at P2
    simp only [Int.cast_ofNat_Int] at P1 P2
    have HFF : Hid (Fits 60 (pN 0) ∧ Fits 60 (pD 0) ∧ pD 0 ≠ 0) := ⟨fA, fD, Nat.ne_of_gt (pD_pos _)⟩
    clear eA eD fA fD
    generalize hA : pN 0 = A at *
    generalize hD : pD 0 = D at *
    have HAD : Hid (pN 0 = A ∧ pD 0 = D) := ⟨hA, hD⟩
    clear hA hD
    go_wp2_with fail
    all_goals first | (exfalso; omega) | skip
    refine (SM _).mono ?_
    rintro o w1 ⟨v1, rfl, n1, b1⟩
    have H1 : Hid (Big.D.NatV w1 v1 0 ∧ Below w.heap.size w w1) := ⟨n1, b1⟩
    clear b1 n1 SM
    go_wp2_with fail
    all_goals first | (exfalso; omega) | skip
    refine (P1 _).mono ?_
    rintro o w2 ⟨v2, rfl, n2, b2⟩
    have H2 : Hid (Big.D.NatV w2 v1 (0) ∧ Big.D.NatV w2 v2 A ∧ Below w.heap.size w w2) := ⟨H1.out.1.below b2, n2, H1.out.2.trans (b2.mono H1.out.2.size)⟩
    have ML := dmul_nat H2.out.1 H2.out.2.1 (HWF.out.up (by omega)) (HFF.out.1.up (by omega))
    clear b2 n2 P1 H1
    go_wp2_with fail
    all_goals first | (exfalso; omega) | skip
    refine ML.mono ?_
    rintro o w3 ⟨v3, rfl, n3, b3⟩
    have H3 : Hid (Big.D.NatV w3 v3 ((0) * A) ∧ Below w.heap.size w w3) := ⟨n3, H2.out.2.2.trans (b3.mono H2.out.2.2.size)⟩
    clear b3 n3 ML H2
    go_wp2_with fail
    all_goals first | (exfalso; omega) | skip
    refine (P2 _).mono ?_
    rintro o w4 ⟨v4, rfl, n4, b4⟩
    have H4 : Hid (Big.D.NatV w4 v3 ((0) * A) ∧ Big.D.NatV w4 v4 D ∧ Below w.heap.size w w4) := ⟨H3.out.1.below b4, n4, H3.out.2.trans (b4.mono H3.out.2.size)⟩
    have NR := near13 HZ.out H4.out.1 H4.out.2.1 HFF.out.2.2 ((HWF.out.mul HFF.out.1).up (by omega)) (HFF.out.2.1.up (by omega)) (t := 1) (.inr (.inr rfl))
    clear b4 n4 P2 H3
    go_wp2_with fail
    all_goals first | (exfalso; omega) | skip
    refine NR.mono ?_
    rintro o w5 ⟨x, ov, rfl, hx, b5⟩
    have H5 : Hid (NrT f T L ((0) * A) D 0 1 x ∧ Below w.heap.size w w5) := ⟨hx, H4.out.2.2.trans (b5.mono H4.out.2.2.size)⟩
    clear b5 hx NR H4
    go_wp2
    go_ret
    exact ⟨x, rfl, by first | exact H5.out.1 | (have q := H5.out.1; rw [← HAD.out.1, ← HAD.out.2] at q; exact q), H5.out.2⟩
  · obtain ⟨k, hk⟩ : ∃ k : Nat, c = (k : Int) := ⟨c.toNat, by omega⟩
    have P1 := fun W => dpow_any 10 k (by omega) (by omega) (by omega) W
    have P2 := fun W => dpow_any 10 0 (by omega) (by omega) (by omega) W
    have eA : 10 ^ k = pN c := by unfold pN; rw [show (c : Int).toNat = k by omega]
    have eD : 10 ^ 0 = pD c := by unfold pD; rw [show (-c : Int).toNat = 0 by omega]
    have fA : Fits 60 (pN c) := by rw [← eA]; exact ten_fits (by omega)
    have fD : Fits 60 (pD c) := by rw [← eD]; exact ten_fits (by omega)
    rw [eA] at P1
    rw [eD] at P2
    simp only [Int.cast_ofNat_Int] at P1 P2
    have HFF : Hid (Fits 60 (pN c) ∧ Fits 60 (pD c) ∧ pD c ≠ 0) := ⟨fA, fD, Nat.ne_of_gt (pD_pos _)⟩
    clear eA eD fA fD
    rw [← hk] at P1
    clear hk
    generalize hA : pN c = A at *
    generalize hD : pD c = D at *
    have HAD : Hid (pN c = A ∧ pD c = D) := ⟨hA, hD⟩
    clear hA hD
    go_wp2_with fail
    all_goals first | (exfalso; omega) | skip
    refine (SM _).mono ?_
    rintro o w1 ⟨v1, rfl, n1, b1⟩
    have H1 : Hid (Big.D.NatV w1 v1 0 ∧ Below w.heap.size w w1) := ⟨n1, b1⟩
    clear b1 n1 SM
    go_wp2_with fail
    all_goals first | (exfalso; omega) | skip
    refine (P1 _).mono ?_
    rintro o w2 ⟨v2, rfl, n2, b2⟩
    have H2 : Hid (Big.D.NatV w2 v1 (0) ∧ Big.D.NatV w2 v2 A ∧ Below w.heap.size w w2) := ⟨H1.out.1.below b2, n2, H1.out.2.trans (b2.mono H1.out.2.size)⟩
    have ML := dmul_nat H2.out.1 H2.out.2.1 (HWF.out.up (by omega)) (HFF.out.1.up (by omega))
    clear b2 n2 P1 H1
    go_wp2_with fail
    all_goals first | (exfalso; omega) | skip
    refine ML.mono ?_
    rintro o w3 ⟨v3, rfl, n3, b3⟩
    have H3 : Hid (Big.D.NatV w3 v3 ((0) * A) ∧ Below w.heap.size w w3) := ⟨n3, H2.out.2.2.trans (b3.mono H2.out.2.2.size)⟩
    clear b3 n3 ML H2
    go_wp2_with fail
    all_goals first | (exfalso; omega) | skip
    refine (P2 _).mono ?_
    rintro o w4 ⟨v4, rfl, n4, b4⟩
    have H4 : Hid (Big.D.NatV w4 v3 ((0) * A) ∧ Big.D.NatV w4 v4 D ∧ Below w.heap.size w w4) := ⟨H3.out.1.below b4, n4, H3.out.2.trans (b4.mono H3.out.2.size)⟩
    have NR := near13 HZ.out H4.out.1 H4.out.2.1 HFF.out.2.2 ((HWF.out.mul HFF.out.1).up (by omega)) (HFF.out.2.1.up (by omega)) (t := 1) (.inr (.inr rfl))
    clear b4 n4 P2 H3
    go_wp2_with fail
    all_goals first | (exfalso; omega) | skip
    refine NR.mono ?_
    rintro o w5 ⟨x, ov, rfl, hx, b5⟩
    have H5 : Hid (NrT f T L ((0) * A) D 0 1 x ∧ Below w.heap.size w w5) := ⟨hx, H4.out.2.2.trans (b5.mono H4.out.2.2.size)⟩
    clear b5 hx NR H4
    go_wp2
    go_ret
    exact ⟨x, rfl, by first | exact H5.out.1 | (have q := H5.out.1; rw [← HAD.out.1, ← HAD.out.2] at q; exact q), H5.out.2⟩

set_option maxRecDepth 100000 in
set_option maxHeartbeats 4000000 in
theorem at_zm {s : Int} {g n f T : Nat} {L : Int} (hz : Fz s g n f T L) {e c : Int} (hc : c = clE e) (he0 : -400 ≤ e) (he : e ≤ 400) (w : World) :
    Calls Tryd.prog 15 #[.int .u64 0, .int .i64 e, .int .i64 s, .int .i64 1] w fun o w' => ∃ x : Nat, o = .returned (.int .u64 (x : Int)) ∧ NrT f T L (0 * pN c) (pD c) 0 1 x ∧ Below w.heap.size w w' := by
  have SM := fun W => dsmall_word 0 (by omega) W
  have HZ : Hid (Fz s g n f T L) := hz
  have HWF : Hid (Fits 3 0) := word_fits (by omega)
  have hc1 : -400 ≤ c := by rw [hc]; unfold clE; omega
  have hc2 : c ≤ 400 := by rw [hc]; unfold clE; omega
  have HC : Hid (c = clE e) := hc
  clear hc hz
  go_enter Tryd.func15, Tryd.ntmps15
  go_upto_region 7 with fail
  go_cut [1] (fun ev wx => wx = w ∧ ev = .int .i64 c)
  case first =>
    go_wp2
    all_goals first | (exfalso; omega) | skip
    all_goals go_meet
    all_goals exact ⟨rfl, congrArg (Value.int .i64) (by have := HC.out; unfold clE at this; omega)⟩
  case rest =>
  obtain ⟨hcw, rfl⟩ := hcut
  have hcw2 := hcw.symm
  subst hcw2
  clear HC
  rcases Int.lt_trichotomy c 0 with cc | cc | cc
  · obtain ⟨k, hk⟩ : ∃ k : Nat, -c = (k : Int) := ⟨(-c).toNat, by omega⟩
    have P1 := fun W => dpow_any 10 0 (by omega) (by omega) (by omega) W
    have P2 := fun W => dpow_any 10 k (by omega) (by omega) (by omega) W
    have eA : 10 ^ 0 = pN c := by unfold pN; rw [show (c : Int).toNat = 0 by omega]
    have eD : 10 ^ k = pD c := by unfold pD; rw [show (-c : Int).toNat = k by omega]
    have fA : Fits 60 (pN c) := by rw [← eA]; exact ten_fits (by omega)
    have fD : Fits 60 (pD c) := by rw [← eD]; exact ten_fits (by omega)
    rw [eA] at P1
    rw [eD] at P2
    simp only [Int.cast_ofNat_Int] at P1 P2
    have HFF : Hid (Fits 60 (pN c) ∧ Fits 60 (pD c) ∧ pD c ≠ 0) := ⟨fA, fD, Nat.ne_of_gt (pD_pos _)⟩
    clear eA eD fA fD
    generalize hA : pN c = A at *
    generalize hD : pD c = D at *
    have HAD : Hid (pN c = A ∧ pD c = D) := ⟨hA, hD⟩
    clear hA hD
    go_wp2_with fail
    all_goals first | (exfalso; omega) | skip
    refine (SM _).mono ?_
    rintro o w1 ⟨v1, rfl, n1, b1⟩
    have H1 : Hid (Big.D.NatV w1 v1 0 ∧ Below w.heap.size w w1) := ⟨n1, b1⟩
    clear b1 n1 SM
    go_wp2_with fail
    all_goals first | (exfalso; omega) | skip
    refine (P1 _).mono ?_
    rintro o w2 ⟨v2, rfl, n2, b2⟩
    have H2 : Hid (Big.D.NatV w2 v1 (0) ∧ Big.D.NatV w2 v2 A ∧ Below w.heap.size w w2) := ⟨H1.out.1.below b2, n2, H1.out.2.trans (b2.mono H1.out.2.size)⟩
    have ML := dmul_nat H2.out.1 H2.out.2.1 (HWF.out.up (by omega)) (HFF.out.1.up (by omega))
    clear b2 n2 P1 H1
    go_wp2_with fail
    all_goals first | (exfalso; omega) | skip
    refine ML.mono ?_
    rintro o w3 ⟨v3, rfl, n3, b3⟩
    have H3 : Hid (Big.D.NatV w3 v3 ((0) * A) ∧ Below w.heap.size w w3) := ⟨n3, H2.out.2.2.trans (b3.mono H2.out.2.2.size)⟩
    clear b3 n3 ML H2
    go_wp2_with fail
    all_goals first | (exfalso; omega) | skip
    refine (P2 _).mono ?_
    rintro o w4 ⟨v4, rfl, n4, b4⟩
    have H4 : Hid (Big.D.NatV w4 v3 ((0) * A) ∧ Big.D.NatV w4 v4 D ∧ Below w.heap.size w w4) := ⟨H3.out.1.below b4, n4, H3.out.2.trans (b4.mono H3.out.2.size)⟩
    have NR := near13 HZ.out H4.out.1 H4.out.2.1 HFF.out.2.2 ((HWF.out.mul HFF.out.1).up (by omega)) (HFF.out.2.1.up (by omega)) (t := 1) (.inr (.inr rfl))
    clear b4 n4 P2 H3
    go_wp2_with fail
    all_goals first | (exfalso; omega) | skip
    refine NR.mono ?_
    rintro o w5 ⟨x, ov, rfl, hx, b5⟩
    have H5 : Hid (NrT f T L ((0) * A) D 0 1 x ∧ Below w.heap.size w w5) := ⟨hx, H4.out.2.2.trans (b5.mono H4.out.2.2.size)⟩
    clear b5 hx NR H4
    go_wp2
    go_ret
    exact ⟨x, rfl, by first | exact H5.out.1 | (have q := H5.out.1; rw [← HAD.out.1, ← HAD.out.2] at q; exact q), H5.out.2⟩
  · subst cc
    have P1 := fun W => dpow_any 10 0 (by omega) (by omega) (by omega) W
    have P2 := fun W => dpow_any 10 0 (by omega) (by omega) (by omega) W
    have eA : 10 ^ 0 = pN 0 := by unfold pN; rw [show (0 : Int).toNat = 0 by omega]
    have eD : 10 ^ 0 = pD 0 := by unfold pD; rw [show (-0 : Int).toNat = 0 by omega]
    have fA : Fits 60 (pN 0) := by rw [← eA]; exact ten_fits (by omega)
    have fD : Fits 60 (pD 0) := by rw [← eD]; exact ten_fits (by omega)
    rw [eA] at P1
    rw [eD] at P2
    simp only [Int.cast_ofNat_Int] at P1 P2
    have HFF : Hid (Fits 60 (pN 0) ∧ Fits 60 (pD 0) ∧ pD 0 ≠ 0) := ⟨fA, fD, Nat.ne_of_gt (pD_pos _)⟩
    clear eA eD fA fD
    generalize hA : pN 0 = A at *
    generalize hD : pD 0 = D at *
    have HAD : Hid (pN 0 = A ∧ pD 0 = D) := ⟨hA, hD⟩
    clear hA hD
    go_wp2_with fail
    all_goals first | (exfalso; omega) | skip
    refine (SM _).mono ?_
    rintro o w1 ⟨v1, rfl, n1, b1⟩
    have H1 : Hid (Big.D.NatV w1 v1 0 ∧ Below w.heap.size w w1) := ⟨n1, b1⟩
    clear b1 n1 SM
    go_wp2_with fail
    all_goals first | (exfalso; omega) | skip
    refine (P1 _).mono ?_
    rintro o w2 ⟨v2, rfl, n2, b2⟩
    have H2 : Hid (Big.D.NatV w2 v1 (0) ∧ Big.D.NatV w2 v2 A ∧ Below w.heap.size w w2) := ⟨H1.out.1.below b2, n2, H1.out.2.trans (b2.mono H1.out.2.size)⟩
    have ML := dmul_nat H2.out.1 H2.out.2.1 (HWF.out.up (by omega)) (HFF.out.1.up (by omega))
    clear b2 n2 P1 H1
    go_wp2_with fail
    all_goals first | (exfalso; omega) | skip
    refine ML.mono ?_
    rintro o w3 ⟨v3, rfl, n3, b3⟩
    have H3 : Hid (Big.D.NatV w3 v3 ((0) * A) ∧ Below w.heap.size w w3) := ⟨n3, H2.out.2.2.trans (b3.mono H2.out.2.2.size)⟩
    clear b3 n3 ML H2
    go_wp2_with fail
    all_goals first | (exfalso; omega) | skip
    refine (P2 _).mono ?_
    rintro o w4 ⟨v4, rfl, n4, b4⟩
    have H4 : Hid (Big.D.NatV w4 v3 ((0) * A) ∧ Big.D.NatV w4 v4 D ∧ Below w.heap.size w w4) := ⟨H3.out.1.below b4, n4, H3.out.2.trans (b4.mono H3.out.2.size)⟩
    have NR := near13 HZ.out H4.out.1 H4.out.2.1 HFF.out.2.2 ((HWF.out.mul HFF.out.1).up (by omega)) (HFF.out.2.1.up (by omega)) (t := 1) (.inr (.inr rfl))
    clear b4 n4 P2 H3
    go_wp2_with fail
    all_goals first | (exfalso; omega) | skip
    refine NR.mono ?_
    rintro o w5 ⟨x, ov, rfl, hx, b5⟩
    have H5 : Hid (NrT f T L ((0) * A) D 0 1 x ∧ Below w.heap.size w w5) := ⟨hx, H4.out.2.2.trans (b5.mono H4.out.2.2.size)⟩
    clear b5 hx NR H4
    go_wp2
    go_ret
    exact ⟨x, rfl, by first | exact H5.out.1 | (have q := H5.out.1; rw [← HAD.out.1, ← HAD.out.2] at q; exact q), H5.out.2⟩
  · obtain ⟨k, hk⟩ : ∃ k : Nat, c = (k : Int) := ⟨c.toNat, by omega⟩
    have P1 := fun W => dpow_any 10 k (by omega) (by omega) (by omega) W
    have P2 := fun W => dpow_any 10 0 (by omega) (by omega) (by omega) W
    have eA : 10 ^ k = pN c := by unfold pN; rw [show (c : Int).toNat = k by omega]
    have eD : 10 ^ 0 = pD c := by unfold pD; rw [show (-c : Int).toNat = 0 by omega]
    have fA : Fits 60 (pN c) := by rw [← eA]; exact ten_fits (by omega)
    have fD : Fits 60 (pD c) := by rw [← eD]; exact ten_fits (by omega)
    rw [eA] at P1
    rw [eD] at P2
    simp only [Int.cast_ofNat_Int] at P1 P2
    have HFF : Hid (Fits 60 (pN c) ∧ Fits 60 (pD c) ∧ pD c ≠ 0) := ⟨fA, fD, Nat.ne_of_gt (pD_pos _)⟩
    clear eA eD fA fD
    rw [← hk] at P1
    clear hk
    generalize hA : pN c = A at *
    generalize hD : pD c = D at *
    have HAD : Hid (pN c = A ∧ pD c = D) := ⟨hA, hD⟩
    clear hA hD
    go_wp2_with fail
    all_goals first | (exfalso; omega) | skip
    refine (SM _).mono ?_
    rintro o w1 ⟨v1, rfl, n1, b1⟩
    have H1 : Hid (Big.D.NatV w1 v1 0 ∧ Below w.heap.size w w1) := ⟨n1, b1⟩
    clear b1 n1 SM
    go_wp2_with fail
    all_goals first | (exfalso; omega) | skip
    refine (P1 _).mono ?_
    rintro o w2 ⟨v2, rfl, n2, b2⟩
    have H2 : Hid (Big.D.NatV w2 v1 (0) ∧ Big.D.NatV w2 v2 A ∧ Below w.heap.size w w2) := ⟨H1.out.1.below b2, n2, H1.out.2.trans (b2.mono H1.out.2.size)⟩
    have ML := dmul_nat H2.out.1 H2.out.2.1 (HWF.out.up (by omega)) (HFF.out.1.up (by omega))
    clear b2 n2 P1 H1
    go_wp2_with fail
    all_goals first | (exfalso; omega) | skip
    refine ML.mono ?_
    rintro o w3 ⟨v3, rfl, n3, b3⟩
    have H3 : Hid (Big.D.NatV w3 v3 ((0) * A) ∧ Below w.heap.size w w3) := ⟨n3, H2.out.2.2.trans (b3.mono H2.out.2.2.size)⟩
    clear b3 n3 ML H2
    go_wp2_with fail
    all_goals first | (exfalso; omega) | skip
    refine (P2 _).mono ?_
    rintro o w4 ⟨v4, rfl, n4, b4⟩
    have H4 : Hid (Big.D.NatV w4 v3 ((0) * A) ∧ Big.D.NatV w4 v4 D ∧ Below w.heap.size w w4) := ⟨H3.out.1.below b4, n4, H3.out.2.trans (b4.mono H3.out.2.size)⟩
    have NR := near13 HZ.out H4.out.1 H4.out.2.1 HFF.out.2.2 ((HWF.out.mul HFF.out.1).up (by omega)) (HFF.out.2.1.up (by omega)) (t := 1) (.inr (.inr rfl))
    clear b4 n4 P2 H3
    go_wp2_with fail
    all_goals first | (exfalso; omega) | skip
    refine NR.mono ?_
    rintro o w5 ⟨x, ov, rfl, hx, b5⟩
    have H5 : Hid (NrT f T L ((0) * A) D 0 1 x ∧ Below w.heap.size w w5) := ⟨hx, H4.out.2.2.trans (b5.mono H4.out.2.2.size)⟩
    clear b5 hx NR H4
    go_wp2
    go_ret
    exact ⟨x, rfl, by first | exact H5.out.1 | (have q := H5.out.1; rw [← HAD.out.1, ← HAD.out.2] at q; exact q), H5.out.2⟩

set_option maxRecDepth 100000 in
set_option maxHeartbeats 4000000 in
theorem at_nm {s : Int} {g n f T : Nat} {L : Int} (hz : Fz s g n f T L) {m : Nat} (hm : m < 18446744073709551616) (m0 : m ≠ 0) {t : Int} (ht : t = -1 ∨ t = 0 ∨ t = 1) {e c : Int} (hc : c = clE e) (he0 : -400 ≤ e) (he : e ≤ 400) (w : World) :
    Calls Tryd.prog 15 #[.int .u64 (m : Int), .int .i64 e, .int .i64 s, .int .i64 t] w fun o w' => ∃ x : Nat, o = .returned (.int .u64 (x : Int)) ∧ NrT f T L (m * pN c) (pD c) 0 t x ∧ Below w.heap.size w w' := by
  have SM := fun W => dsmall_word m (by omega) W
  have HZ : Hid (Fz s g n f T L) := hz
  have HWF : Hid (Fits 3 m) := word_fits (by omega)
  have hc1 : -400 ≤ c := by rw [hc]; unfold clE; omega
  have hc2 : c ≤ 400 := by rw [hc]; unfold clE; omega
  have HC : Hid (c = clE e) := hc
  have HTT : Hid (t = -1 ∨ t = 0 ∨ t = 1) := ht
  have q0 : ((m : Int) == 0) = false := by rw [beq_eq_false_iff_ne]; omega
  clear hc hz
  go_enter Tryd.func15, Tryd.ntmps15
  go_upto_region 7 with fail
  go_cut [1] (fun ev wx => wx = w ∧ ev = .int .i64 c)
  case first =>
    go_wp2
    all_goals first | (exfalso; omega) | skip
    all_goals go_meet
    all_goals exact ⟨rfl, congrArg (Value.int .i64) (by have := HC.out; unfold clE at this; omega)⟩
  case rest =>
  obtain ⟨hcw, rfl⟩ := hcut
  have hcw2 := hcw.symm
  subst hcw2
  clear HC
  rcases Int.lt_trichotomy c 0 with cc | cc | cc
  · obtain ⟨k, hk⟩ : ∃ k : Nat, -c = (k : Int) := ⟨(-c).toNat, by omega⟩
    have P1 := fun W => dpow_any 10 0 (by omega) (by omega) (by omega) W
    have P2 := fun W => dpow_any 10 k (by omega) (by omega) (by omega) W
    have eA : 10 ^ 0 = pN c := by unfold pN; rw [show (c : Int).toNat = 0 by omega]
    have eD : 10 ^ k = pD c := by unfold pD; rw [show (-c : Int).toNat = k by omega]
    have fA : Fits 60 (pN c) := by rw [← eA]; exact ten_fits (by omega)
    have fD : Fits 60 (pD c) := by rw [← eD]; exact ten_fits (by omega)
    rw [eA] at P1
    rw [eD] at P2
    simp only [Int.cast_ofNat_Int] at P1 P2
    have HFF : Hid (Fits 60 (pN c) ∧ Fits 60 (pD c) ∧ pD c ≠ 0) := ⟨fA, fD, Nat.ne_of_gt (pD_pos _)⟩
    clear eA eD fA fD
    generalize hA : pN c = A at *
    generalize hD : pD c = D at *
    have HAD : Hid (pN c = A ∧ pD c = D) := ⟨hA, hD⟩
    clear hA hD
    go_wp2_with fail
    all_goals first | (exfalso; omega) | skip
    refine (SM _).mono ?_
    rintro o w1 ⟨v1, rfl, n1, b1⟩
    have H1 : Hid (Big.D.NatV w1 v1 m ∧ Below w.heap.size w w1) := ⟨n1, b1⟩
    clear b1 n1 SM
    go_wp2_with fail
    all_goals first | (exfalso; omega) | skip
    refine (P1 _).mono ?_
    rintro o w2 ⟨v2, rfl, n2, b2⟩
    have H2 : Hid (Big.D.NatV w2 v1 (m) ∧ Big.D.NatV w2 v2 A ∧ Below w.heap.size w w2) := ⟨H1.out.1.below b2, n2, H1.out.2.trans (b2.mono H1.out.2.size)⟩
    have ML := dmul_nat H2.out.1 H2.out.2.1 (HWF.out.up (by omega)) (HFF.out.1.up (by omega))
    clear b2 n2 P1 H1
    go_wp2_with fail
    all_goals first | (exfalso; omega) | skip
    refine ML.mono ?_
    rintro o w3 ⟨v3, rfl, n3, b3⟩
    have H3 : Hid (Big.D.NatV w3 v3 ((m) * A) ∧ Below w.heap.size w w3) := ⟨n3, H2.out.2.2.trans (b3.mono H2.out.2.2.size)⟩
    clear b3 n3 ML H2
    go_wp2_with fail
    all_goals first | (exfalso; omega) | skip
    refine (P2 _).mono ?_
    rintro o w4 ⟨v4, rfl, n4, b4⟩
    have H4 : Hid (Big.D.NatV w4 v3 ((m) * A) ∧ Big.D.NatV w4 v4 D ∧ Below w.heap.size w w4) := ⟨H3.out.1.below b4, n4, H3.out.2.trans (b4.mono H3.out.2.size)⟩
    have NR := near13 HZ.out H4.out.1 H4.out.2.1 HFF.out.2.2 ((HWF.out.mul HFF.out.1).up (by omega)) (HFF.out.2.1.up (by omega)) HTT.out
    clear b4 n4 P2 H3
    go_wp2_with fail
    all_goals first | (exfalso; omega) | skip
    refine NR.mono ?_
    rintro o w5 ⟨x, ov, rfl, hx, b5⟩
    have H5 : Hid (NrT f T L ((m) * A) D 0 t x ∧ Below w.heap.size w w5) := ⟨hx, H4.out.2.2.trans (b5.mono H4.out.2.2.size)⟩
    clear b5 hx NR H4
    go_wp2
    go_ret
    exact ⟨x, rfl, by first | exact H5.out.1 | (have q := H5.out.1; rw [← HAD.out.1, ← HAD.out.2] at q; exact q), H5.out.2⟩
  · subst cc
    have P1 := fun W => dpow_any 10 0 (by omega) (by omega) (by omega) W
    have P2 := fun W => dpow_any 10 0 (by omega) (by omega) (by omega) W
    have eA : 10 ^ 0 = pN 0 := by unfold pN; rw [show (0 : Int).toNat = 0 by omega]
    have eD : 10 ^ 0 = pD 0 := by unfold pD; rw [show (-0 : Int).toNat = 0 by omega]
    have fA : Fits 60 (pN 0) := by rw [← eA]; exact ten_fits (by omega)
    have fD : Fits 60 (pD 0) := by rw [← eD]; exact ten_fits (by omega)
    rw [eA] at P1
    rw [eD] at P2
    simp only [Int.cast_ofNat_Int] at P1 P2
    have HFF : Hid (Fits 60 (pN 0) ∧ Fits 60 (pD 0) ∧ pD 0 ≠ 0) := ⟨fA, fD, Nat.ne_of_gt (pD_pos _)⟩
    clear eA eD fA fD
    generalize hA : pN 0 = A at *
    generalize hD : pD 0 = D at *
    have HAD : Hid (pN 0 = A ∧ pD 0 = D) := ⟨hA, hD⟩
    clear hA hD
    go_wp2_with fail
    all_goals first | (exfalso; omega) | skip
    refine (SM _).mono ?_
    rintro o w1 ⟨v1, rfl, n1, b1⟩
    have H1 : Hid (Big.D.NatV w1 v1 m ∧ Below w.heap.size w w1) := ⟨n1, b1⟩
    clear b1 n1 SM
    go_wp2_with fail
    all_goals first | (exfalso; omega) | skip
    refine (P1 _).mono ?_
    rintro o w2 ⟨v2, rfl, n2, b2⟩
    have H2 : Hid (Big.D.NatV w2 v1 (m) ∧ Big.D.NatV w2 v2 A ∧ Below w.heap.size w w2) := ⟨H1.out.1.below b2, n2, H1.out.2.trans (b2.mono H1.out.2.size)⟩
    have ML := dmul_nat H2.out.1 H2.out.2.1 (HWF.out.up (by omega)) (HFF.out.1.up (by omega))
    clear b2 n2 P1 H1
    go_wp2_with fail
    all_goals first | (exfalso; omega) | skip
    refine ML.mono ?_
    rintro o w3 ⟨v3, rfl, n3, b3⟩
    have H3 : Hid (Big.D.NatV w3 v3 ((m) * A) ∧ Below w.heap.size w w3) := ⟨n3, H2.out.2.2.trans (b3.mono H2.out.2.2.size)⟩
    clear b3 n3 ML H2
    go_wp2_with fail
    all_goals first | (exfalso; omega) | skip
    refine (P2 _).mono ?_
    rintro o w4 ⟨v4, rfl, n4, b4⟩
    have H4 : Hid (Big.D.NatV w4 v3 ((m) * A) ∧ Big.D.NatV w4 v4 D ∧ Below w.heap.size w w4) := ⟨H3.out.1.below b4, n4, H3.out.2.trans (b4.mono H3.out.2.size)⟩
    have NR := near13 HZ.out H4.out.1 H4.out.2.1 HFF.out.2.2 ((HWF.out.mul HFF.out.1).up (by omega)) (HFF.out.2.1.up (by omega)) HTT.out
    clear b4 n4 P2 H3
    go_wp2_with fail
    all_goals first | (exfalso; omega) | skip
    refine NR.mono ?_
    rintro o w5 ⟨x, ov, rfl, hx, b5⟩
    have H5 : Hid (NrT f T L ((m) * A) D 0 t x ∧ Below w.heap.size w w5) := ⟨hx, H4.out.2.2.trans (b5.mono H4.out.2.2.size)⟩
    clear b5 hx NR H4
    go_wp2
    go_ret
    exact ⟨x, rfl, by first | exact H5.out.1 | (have q := H5.out.1; rw [← HAD.out.1, ← HAD.out.2] at q; exact q), H5.out.2⟩
  · obtain ⟨k, hk⟩ : ∃ k : Nat, c = (k : Int) := ⟨c.toNat, by omega⟩
    have P1 := fun W => dpow_any 10 k (by omega) (by omega) (by omega) W
    have P2 := fun W => dpow_any 10 0 (by omega) (by omega) (by omega) W
    have eA : 10 ^ k = pN c := by unfold pN; rw [show (c : Int).toNat = k by omega]
    have eD : 10 ^ 0 = pD c := by unfold pD; rw [show (-c : Int).toNat = 0 by omega]
    have fA : Fits 60 (pN c) := by rw [← eA]; exact ten_fits (by omega)
    have fD : Fits 60 (pD c) := by rw [← eD]; exact ten_fits (by omega)
    rw [eA] at P1
    rw [eD] at P2
    simp only [Int.cast_ofNat_Int] at P1 P2
    have HFF : Hid (Fits 60 (pN c) ∧ Fits 60 (pD c) ∧ pD c ≠ 0) := ⟨fA, fD, Nat.ne_of_gt (pD_pos _)⟩
    clear eA eD fA fD
    rw [← hk] at P1
    clear hk
    generalize hA : pN c = A at *
    generalize hD : pD c = D at *
    have HAD : Hid (pN c = A ∧ pD c = D) := ⟨hA, hD⟩
    clear hA hD
    go_wp2_with fail
    all_goals first | (exfalso; omega) | skip
    refine (SM _).mono ?_
    rintro o w1 ⟨v1, rfl, n1, b1⟩
    have H1 : Hid (Big.D.NatV w1 v1 m ∧ Below w.heap.size w w1) := ⟨n1, b1⟩
    clear b1 n1 SM
    go_wp2_with fail
    all_goals first | (exfalso; omega) | skip
    refine (P1 _).mono ?_
    rintro o w2 ⟨v2, rfl, n2, b2⟩
    have H2 : Hid (Big.D.NatV w2 v1 (m) ∧ Big.D.NatV w2 v2 A ∧ Below w.heap.size w w2) := ⟨H1.out.1.below b2, n2, H1.out.2.trans (b2.mono H1.out.2.size)⟩
    have ML := dmul_nat H2.out.1 H2.out.2.1 (HWF.out.up (by omega)) (HFF.out.1.up (by omega))
    clear b2 n2 P1 H1
    go_wp2_with fail
    all_goals first | (exfalso; omega) | skip
    refine ML.mono ?_
    rintro o w3 ⟨v3, rfl, n3, b3⟩
    have H3 : Hid (Big.D.NatV w3 v3 ((m) * A) ∧ Below w.heap.size w w3) := ⟨n3, H2.out.2.2.trans (b3.mono H2.out.2.2.size)⟩
    clear b3 n3 ML H2
    go_wp2_with fail
    all_goals first | (exfalso; omega) | skip
    refine (P2 _).mono ?_
    rintro o w4 ⟨v4, rfl, n4, b4⟩
    have H4 : Hid (Big.D.NatV w4 v3 ((m) * A) ∧ Big.D.NatV w4 v4 D ∧ Below w.heap.size w w4) := ⟨H3.out.1.below b4, n4, H3.out.2.trans (b4.mono H3.out.2.size)⟩
    have NR := near13 HZ.out H4.out.1 H4.out.2.1 HFF.out.2.2 ((HWF.out.mul HFF.out.1).up (by omega)) (HFF.out.2.1.up (by omega)) HTT.out
    clear b4 n4 P2 H3
    go_wp2_with fail
    all_goals first | (exfalso; omega) | skip
    refine NR.mono ?_
    rintro o w5 ⟨x, ov, rfl, hx, b5⟩
    have H5 : Hid (NrT f T L ((m) * A) D 0 t x ∧ Below w.heap.size w w5) := ⟨hx, H4.out.2.2.trans (b5.mono H4.out.2.2.size)⟩
    clear b5 hx NR H4
    go_wp2
    go_ret
    exact ⟨x, rfl, by first | exact H5.out.1 | (have q := H5.out.1; rw [← HAD.out.1, ← HAD.out.2] at q; exact q), H5.out.2⟩

theorem clE_up {e : Int} (h : 400 < e) : clE e = 400 := by unfold clE; omega
theorem clE_dn {e : Int} (h : e < -400) : clE e = -400 := by unfold clE; omega
set_option maxRecDepth 100000 in
set_option maxHeartbeats 1000000 in
theorem at_zl {t : Int} (ht : t ≤ 0) (e s : Int) (w : World) : Calls Tryd.prog 15 #[.int .u64 0, .int .i64 e, .int .i64 s, .int .i64 t] w fun o w' => o = .returned (.int .u64 0) ∧ w' = w := by
  go_enter Tryd.func15, Tryd.ntmps15
  go_wp2
  all_goals first | (exfalso; omega) | skip
  go_ret
  exact ⟨rfl, rfl⟩
set_option maxRecDepth 100000 in
set_option maxHeartbeats 1000000 in
theorem at_up {s : Int} {g n f T : Nat} {L : Int} (hz : Fz s g n f T L) {m : Nat} (m0 : m ≠ 0) (t : Int) {e : Int} (he : 400 < e) (w : World) : Calls Tryd.prog 15 #[.int .u64 (m : Int), .int .i64 e, .int .i64 s, .int .i64 t] w fun o w' => o = .returned (.int .u64 ((T * 2 ^ f : Nat) : Int)) ∧ w' = w := by
  have TI := rinf_z hz w
  have q0 : ((m : Int) == 0) = false := by rw [beq_eq_false_iff_ne]; omega
  have q1 : (0 : Int) < (m : Int) := by omega
  generalize T * 2 ^ f = y at *
  go_enter Tryd.func15, Tryd.ntmps15
  go_wp2_with fail
  all_goals first | (exfalso; omega) | skip
  refine TI.mono ?_
  rintro o w ⟨rfl, rfl⟩
  go_wp2
  go_ret
  exact ⟨rfl, rfl⟩
set_option maxRecDepth 100000 in
set_option maxHeartbeats 1000000 in
theorem at_dn {m : Nat} (m0 : m ≠ 0) (t s : Int) {e : Int} (he : e < -400) (w : World) : Calls Tryd.prog 15 #[.int .u64 (m : Int), .int .i64 e, .int .i64 s, .int .i64 t] w fun o w' => o = .returned (.int .u64 0) ∧ w' = w := by
  have q0 : ((m : Int) == 0) = false := by rw [beq_eq_false_iff_ne]; omega
  have q1 : ¬ 400 < e := by omega
  go_enter Tryd.func15, Tryd.ntmps15
  go_wp2
  all_goals first | (exfalso; omega) | skip
  go_ret
  exact ⟨rfl, rfl⟩
set_option maxRecDepth 100000 in
set_option maxHeartbeats 1000000 in
theorem at_zd (s : Int) {e : Int} (he : e < -400) (w : World) : Calls Tryd.prog 15 #[.int .u64 0, .int .i64 e, .int .i64 s, .int .i64 1] w fun o w' => o = .returned (.int .u64 0) ∧ w' = w := by
  have q1 : ¬ 400 < e := by omega
  go_enter Tryd.func15, Tryd.ntmps15
  go_wp2
  all_goals first | (exfalso; omega) | skip
  go_ret
  exact ⟨rfl, rfl⟩
theorem at_any {s : Int} {g n f T : Nat} {L : Int} (hz : Fz s g n f T L) {m : Nat} (hm : m < 18446744073709551616) {t : Int} (ht : t = -1 ∨ t = 0 ∨ t = 1) (e : Int) (w : World) :
    Calls Tryd.prog 15 #[.int .u64 (m : Int), .int .i64 e, .int .i64 s, .int .i64 t] w fun o w' => ∃ x : Nat, o = .returned (.int .u64 (x : Int)) ∧ NrT f T L (m * pN (clE e)) (pD (clE e)) 0 t x ∧ Below w.heap.size w w' := by
  obtain ⟨s1, s2, s3, s4⟩ := hz.sizes
  by_cases m0 : m = 0
  · subst m0
    rcases Int.lt_or_le 0 t with t1 | t1
    · obtain rfl : t = 1 := by omega
      rcases Int.lt_or_le 400 e with h | h
      · exact at_zu hz rfl h w
      · rcases Int.lt_or_le e (-400) with k | k
        · refine (at_zd s k w).mono ?_
          rintro o w' ⟨rfl, rfl⟩
          exact ⟨0, rfl, by rw [Nat.zero_mul]; exact NrT_nought (pD_pos _) s2, Below.refl _ _⟩
        · exact at_zm hz rfl k h w
    · refine (at_zl t1 e s w).mono ?_
      rintro o w' ⟨rfl, rfl⟩
      exact ⟨0, rfl, by rw [Nat.zero_mul]; exact NrT_nought (pD_pos _) s2, Below.refl _ _⟩
  · rcases Int.lt_or_le 400 e with h | h
    · refine (at_up hz m0 t h w).mono ?_
      rintro o w' ⟨rfl, rfl⟩
      exact ⟨_, rfl, by rw [clE_up h]; exact nrt_up s1 s2 s3 (Nat.pos_of_ne_zero m0) t, Below.refl _ _⟩
    · rcases Int.lt_or_le e (-400) with k | k
      · refine (at_dn m0 t s k w).mono ?_
        rintro o w' ⟨rfl, rfl⟩
        exact ⟨_, rfl, by rw [clE_dn k]; exact nrt_dn s1 s2 s4 (by omega) t, Below.refl _ _⟩
      · exact at_nm hz hm m0 ht rfl k h w

set_option maxRecDepth 100000 in
set_option maxHeartbeats 1000000 in
theorem ab_lo {s : Int} {g n f T : Nat} {L : Int} (hz : Fz s g n f T L) {m : Nat} (hm : m < 18446744073709551615) {e : Int} (he : e ≤ 400) (w : World) :
    Calls Tryd.prog 16 #[.int .u64 (m : Int), .int .i64 e, .int .i64 s] w fun o w' => ∃ x : Nat, o = .returned (.int .u64 (x : Int)) ∧ NrT f T L ((m + 1) * pN (clE e)) (pD (clE e)) 0 (-1) x ∧ Below w.heap.size w w' := by
  have AT := at_any hz (m := m + 1) (by omega) (t := -1) (.inl rfl) e w
  rw [show (((m + 1 : Nat)) : Int) = (m : Int) + 1 from rfl] at AT
  have q1 : (m : Int) < 18446744073709551615 := by omega
  have q2 : (0 : Int) < (m : Int) + 1 := by omega
  have q3 : ¬ 400 < e := by omega
  generalize NrT f T L ((m + 1) * pN (clE e)) (pD (clE e)) 0 (-1) = R at *
  go_enter Tryd.func16, Tryd.ntmps16
  go_wp2_with fail
  all_goals first | (exfalso; omega) | skip
  refine AT.mono ?_
  rintro o w1 ⟨x, rfl, hx, hb⟩
  have HX : Hid (R x ∧ Below w.heap.size w w1) := ⟨hx, hb⟩
  clear hx hb AT
  go_wp2
  go_ret
  exact ⟨x, rfl, HX.out.1, HX.out.2⟩
set_option maxRecDepth 100000 in
set_option maxHeartbeats 1000000 in
theorem ab_lu {s : Int} {g n f T : Nat} {L : Int} (hz : Fz s g n f T L) {m : Nat} (hm : m < 18446744073709551615) {e : Int} (he : 400 < e) (w : World) :
    Calls Tryd.prog 16 #[.int .u64 (m : Int), .int .i64 e, .int .i64 s] w fun o w' => o = .returned (.int .u64 ((T * 2 ^ f : Nat) : Int)) ∧ w' = w := by
  have TI := rinf_z hz w
  have q1 : (m : Int) < 18446744073709551615 := by omega
  have q2 : (0 : Int) < (m : Int) + 1 := by omega
  generalize T * 2 ^ f = y at *
  go_enter Tryd.func16, Tryd.ntmps16
  go_wp2_with fail
  all_goals first | (exfalso; omega) | skip
  refine TI.mono ?_
  rintro o w ⟨rfl, rfl⟩
  go_wp2
  go_ret
  exact ⟨rfl, rfl⟩
set_option maxRecDepth 100000 in
set_option maxHeartbeats 1000000 in
theorem ab_hu {s : Int} {g n f T : Nat} {L : Int} (hz : Fz s g n f T L) {e : Int} (he : 400 < e) (w : World) :
    Calls Tryd.prog 16 #[.int .u64 18446744073709551615, .int .i64 e, .int .i64 s] w fun o w' => o = .returned (.int .u64 ((T * 2 ^ f : Nat) : Int)) ∧ w' = w := by
  have TI := rinf_z hz w
  generalize T * 2 ^ f = y at *
  go_enter Tryd.func16, Tryd.ntmps16
  go_wp2_with fail
  all_goals first | (exfalso; omega) | skip
  refine TI.mono ?_
  rintro o w ⟨rfl, rfl⟩
  go_wp2
  go_ret
  exact ⟨rfl, rfl⟩
set_option maxRecDepth 100000 in
set_option maxHeartbeats 1000000 in
theorem ab_hd (s : Int) {e : Int} (he : e < -400) (w : World) :
    Calls Tryd.prog 16 #[.int .u64 18446744073709551615, .int .i64 e, .int .i64 s] w fun o w' => o = .returned (.int .u64 0) ∧ w' = w := by
  have q : ¬ 400 < e := by omega
  go_enter Tryd.func16, Tryd.ntmps16
  go_wp2
  all_goals first | (exfalso; omega) | skip
  go_ret
  exact ⟨rfl, rfl⟩
set_option maxRecDepth 100000 in
set_option maxHeartbeats 4000000 in
theorem ab_hm {s : Int} {g n f T : Nat} {L : Int} (hz : Fz s g n f T L) {c : Int} (hc1 : -400 ≤ c) (hc2 : c ≤ 400) (w : World) :
    Calls Tryd.prog 16 #[.int .u64 18446744073709551615, .int .i64 c, .int .i64 s] w fun o w' => ∃ x : Nat, o = .returned (.int .u64 (x : Int)) ∧ NrT f T L (18446744073709551616 * pN c) (pD c) 0 (-1) x ∧ Below w.heap.size w w' := by
  have O1 := dnat_one w
  have SH := dshl_new O1 (two_fits (s := 0) (k := 1000) (by omega)) 64 (by omega)
  rw [show 1 * 2 ^ 64 = 18446744073709551616 from rfl] at SH
  simp only [Int.cast_ofNat_Int] at SH
  have B0 : Hid (Below w.heap.size w (w.alloc (.cells #[.int .u64 1] 22))) := (Below.refl _ _).alloc (Nat.le_refl _) _
  have HZ : Hid (Fz s g n f T L) := hz
  have HWF : Hid (Fits 3 18446744073709551616) := word_fits (by omega)
  clear hz O1
  go_enter Tryd.func16, Tryd.ntmps16
  rcases Int.lt_trichotomy c 0 with cc | cc | cc
  · obtain ⟨k, hk⟩ : ∃ k : Nat, -c = (k : Int) := ⟨(-c).toNat, by omega⟩
    have P1 := fun W => dpow_any 10 0 (by omega) (by omega) (by omega) W
    have P2 := fun W => dpow_any 10 k (by omega) (by omega) (by omega) W
    have eA : 10 ^ 0 = pN c := by unfold pN; rw [show (c : Int).toNat = 0 by omega]
    have eD : 10 ^ k = pD c := by unfold pD; rw [show (-c : Int).toNat = k by omega]
    have fA : Fits 60 (pN c) := by rw [← eA]; exact ten_fits (by omega)
    have fD : Fits 60 (pD c) := by rw [← eD]; exact ten_fits (by omega)
    rw [eA] at P1
    rw [eD] at P2
    simp only [Int.cast_ofNat_Int] at P1 P2
    have HFF : Hid (Fits 60 (pN c) ∧ Fits 60 (pD c) ∧ pD c ≠ 0) := ⟨fA, fD, Nat.ne_of_gt (pD_pos _)⟩
    clear eA eD fA fD
    generalize hA : pN c = A at *
    generalize hD : pD c = D at *
    have HAD : Hid (pN c = A ∧ pD c = D) := ⟨hA, hD⟩
    clear hA hD
    go_wp2_with fail
    all_goals first | (exfalso; omega) | skip
    refine SH.mono ?_
    rintro o w1 ⟨v1, rfl, n1, b1⟩
    have H1 : Hid (Big.D.NatV w1 v1 18446744073709551616 ∧ Below w.heap.size w w1) := ⟨n1.nat, B0.out.trans (b1.mono B0.out.size)⟩
    clear b1 n1 SH
    go_wp2_with fail
    all_goals first | (exfalso; omega) | skip
    refine (P1 _).mono ?_
    rintro o w2 ⟨v2, rfl, n2, b2⟩
    have H2 : Hid (Big.D.NatV w2 v1 (18446744073709551616) ∧ Big.D.NatV w2 v2 A ∧ Below w.heap.size w w2) := ⟨H1.out.1.below b2, n2, H1.out.2.trans (b2.mono H1.out.2.size)⟩
    have ML := dmul_nat H2.out.1 H2.out.2.1 (HWF.out.up (by omega)) (HFF.out.1.up (by omega))
    clear b2 n2 P1 H1
    go_wp2_with fail
    all_goals first | (exfalso; omega) | skip
    refine ML.mono ?_
    rintro o w3 ⟨v3, rfl, n3, b3⟩
    have H3 : Hid (Big.D.NatV w3 v3 ((18446744073709551616) * A) ∧ Below w.heap.size w w3) := ⟨n3, H2.out.2.2.trans (b3.mono H2.out.2.2.size)⟩
    clear b3 n3 ML H2
    go_wp2_with fail
    all_goals first | (exfalso; omega) | skip
    refine (P2 _).mono ?_
    rintro o w4 ⟨v4, rfl, n4, b4⟩
    have H4 : Hid (Big.D.NatV w4 v3 ((18446744073709551616) * A) ∧ Big.D.NatV w4 v4 D ∧ Below w.heap.size w w4) := ⟨H3.out.1.below b4, n4, H3.out.2.trans (b4.mono H3.out.2.size)⟩
    have NR := near13 HZ.out H4.out.1 H4.out.2.1 HFF.out.2.2 ((HWF.out.mul HFF.out.1).up (by omega)) (HFF.out.2.1.up (by omega)) (t := -1) (.inl rfl)
    clear b4 n4 P2 H3
    go_wp2_with fail
    all_goals first | (exfalso; omega) | skip
    refine NR.mono ?_
    rintro o w5 ⟨x, ov, rfl, hx, b5⟩
    have H5 : Hid (NrT f T L ((18446744073709551616) * A) D 0 (-1) x ∧ Below w.heap.size w w5) := ⟨hx, H4.out.2.2.trans (b5.mono H4.out.2.2.size)⟩
    clear b5 hx NR H4
    go_wp2
    go_ret
    exact ⟨x, rfl, by first | exact H5.out.1 | (have q := H5.out.1; rw [← HAD.out.1, ← HAD.out.2] at q; exact q), H5.out.2⟩
  · subst cc
    have P1 := fun W => dpow_any 10 0 (by omega) (by omega) (by omega) W
    have P2 := fun W => dpow_any 10 0 (by omega) (by omega) (by omega) W
    have eA : 10 ^ 0 = pN 0 := by unfold pN; rw [show (0 : Int).toNat = 0 by omega]
    have eD : 10 ^ 0 = pD 0 := by unfold pD; rw [show (-0 : Int).toNat = 0 by omega]
    have fA : Fits 60 (pN 0) := by rw [← eA]; exact ten_fits (by omega)
    have fD : Fits 60 (pD 0) := by rw [← eD]; exact ten_fits (by omega)
    rw [eA] at P1
    rw [eD] at P2
    simp only [Int.cast_ofNat_Int] at P1 P2
    have HFF : Hid (Fits 60 (pN 0) ∧ Fits 60 (pD 0) ∧ pD 0 ≠ 0) := ⟨fA, fD, Nat.ne_of_gt (pD_pos _)⟩
    clear eA eD fA fD
    generalize hA : pN 0 = A at *
    generalize hD : pD 0 = D at *
    have HAD : Hid (pN 0 = A ∧ pD 0 = D) := ⟨hA, hD⟩
    clear hA hD
    go_wp2_with fail
    all_goals first | (exfalso; omega) | skip
    refine SH.mono ?_
    rintro o w1 ⟨v1, rfl, n1, b1⟩
    have H1 : Hid (Big.D.NatV w1 v1 18446744073709551616 ∧ Below w.heap.size w w1) := ⟨n1.nat, B0.out.trans (b1.mono B0.out.size)⟩
    clear b1 n1 SH
    go_wp2_with fail
    all_goals first | (exfalso; omega) | skip
    refine (P1 _).mono ?_
    rintro o w2 ⟨v2, rfl, n2, b2⟩
    have H2 : Hid (Big.D.NatV w2 v1 (18446744073709551616) ∧ Big.D.NatV w2 v2 A ∧ Below w.heap.size w w2) := ⟨H1.out.1.below b2, n2, H1.out.2.trans (b2.mono H1.out.2.size)⟩
    have ML := dmul_nat H2.out.1 H2.out.2.1 (HWF.out.up (by omega)) (HFF.out.1.up (by omega))
    clear b2 n2 P1 H1
    go_wp2_with fail
    all_goals first | (exfalso; omega) | skip
    refine ML.mono ?_
    rintro o w3 ⟨v3, rfl, n3, b3⟩
    have H3 : Hid (Big.D.NatV w3 v3 ((18446744073709551616) * A) ∧ Below w.heap.size w w3) := ⟨n3, H2.out.2.2.trans (b3.mono H2.out.2.2.size)⟩
    clear b3 n3 ML H2
    go_wp2_with fail
    all_goals first | (exfalso; omega) | skip
    refine (P2 _).mono ?_
    rintro o w4 ⟨v4, rfl, n4, b4⟩
    have H4 : Hid (Big.D.NatV w4 v3 ((18446744073709551616) * A) ∧ Big.D.NatV w4 v4 D ∧ Below w.heap.size w w4) := ⟨H3.out.1.below b4, n4, H3.out.2.trans (b4.mono H3.out.2.size)⟩
    have NR := near13 HZ.out H4.out.1 H4.out.2.1 HFF.out.2.2 ((HWF.out.mul HFF.out.1).up (by omega)) (HFF.out.2.1.up (by omega)) (t := -1) (.inl rfl)
    clear b4 n4 P2 H3
    go_wp2_with fail
    all_goals first | (exfalso; omega) | skip
    refine NR.mono ?_
    rintro o w5 ⟨x, ov, rfl, hx, b5⟩
    have H5 : Hid (NrT f T L ((18446744073709551616) * A) D 0 (-1) x ∧ Below w.heap.size w w5) := ⟨hx, H4.out.2.2.trans (b5.mono H4.out.2.2.size)⟩
    clear b5 hx NR H4
    go_wp2
    go_ret
    exact ⟨x, rfl, by first | exact H5.out.1 | (have q := H5.out.1; rw [← HAD.out.1, ← HAD.out.2] at q; exact q), H5.out.2⟩
  · obtain ⟨k, hk⟩ : ∃ k : Nat, c = (k : Int) := ⟨c.toNat, by omega⟩
    have P1 := fun W => dpow_any 10 k (by omega) (by omega) (by omega) W
    have P2 := fun W => dpow_any 10 0 (by omega) (by omega) (by omega) W
    have eA : 10 ^ k = pN c := by unfold pN; rw [show (c : Int).toNat = k by omega]
    have eD : 10 ^ 0 = pD c := by unfold pD; rw [show (-c : Int).toNat = 0 by omega]
    have fA : Fits 60 (pN c) := by rw [← eA]; exact ten_fits (by omega)
    have fD : Fits 60 (pD c) := by rw [← eD]; exact ten_fits (by omega)
    rw [eA] at P1
    rw [eD] at P2
    simp only [Int.cast_ofNat_Int] at P1 P2
    have HFF : Hid (Fits 60 (pN c) ∧ Fits 60 (pD c) ∧ pD c ≠ 0) := ⟨fA, fD, Nat.ne_of_gt (pD_pos _)⟩
    clear eA eD fA fD
    rw [← hk] at P1
    clear hk
    generalize hA : pN c = A at *
    generalize hD : pD c = D at *
    have HAD : Hid (pN c = A ∧ pD c = D) := ⟨hA, hD⟩
    clear hA hD
    go_wp2_with fail
    all_goals first | (exfalso; omega) | skip
    refine SH.mono ?_
    rintro o w1 ⟨v1, rfl, n1, b1⟩
    have H1 : Hid (Big.D.NatV w1 v1 18446744073709551616 ∧ Below w.heap.size w w1) := ⟨n1.nat, B0.out.trans (b1.mono B0.out.size)⟩
    clear b1 n1 SH
    go_wp2_with fail
    all_goals first | (exfalso; omega) | skip
    refine (P1 _).mono ?_
    rintro o w2 ⟨v2, rfl, n2, b2⟩
    have H2 : Hid (Big.D.NatV w2 v1 (18446744073709551616) ∧ Big.D.NatV w2 v2 A ∧ Below w.heap.size w w2) := ⟨H1.out.1.below b2, n2, H1.out.2.trans (b2.mono H1.out.2.size)⟩
    have ML := dmul_nat H2.out.1 H2.out.2.1 (HWF.out.up (by omega)) (HFF.out.1.up (by omega))
    clear b2 n2 P1 H1
    go_wp2_with fail
    all_goals first | (exfalso; omega) | skip
    refine ML.mono ?_
    rintro o w3 ⟨v3, rfl, n3, b3⟩
    have H3 : Hid (Big.D.NatV w3 v3 ((18446744073709551616) * A) ∧ Below w.heap.size w w3) := ⟨n3, H2.out.2.2.trans (b3.mono H2.out.2.2.size)⟩
    clear b3 n3 ML H2
    go_wp2_with fail
    all_goals first | (exfalso; omega) | skip
    refine (P2 _).mono ?_
    rintro o w4 ⟨v4, rfl, n4, b4⟩
    have H4 : Hid (Big.D.NatV w4 v3 ((18446744073709551616) * A) ∧ Big.D.NatV w4 v4 D ∧ Below w.heap.size w w4) := ⟨H3.out.1.below b4, n4, H3.out.2.trans (b4.mono H3.out.2.size)⟩
    have NR := near13 HZ.out H4.out.1 H4.out.2.1 HFF.out.2.2 ((HWF.out.mul HFF.out.1).up (by omega)) (HFF.out.2.1.up (by omega)) (t := -1) (.inl rfl)
    clear b4 n4 P2 H3
    go_wp2_with fail
    all_goals first | (exfalso; omega) | skip
    refine NR.mono ?_
    rintro o w5 ⟨x, ov, rfl, hx, b5⟩
    have H5 : Hid (NrT f T L ((18446744073709551616) * A) D 0 (-1) x ∧ Below w.heap.size w w5) := ⟨hx, H4.out.2.2.trans (b5.mono H4.out.2.2.size)⟩
    clear b5 hx NR H4
    go_wp2
    go_ret
    exact ⟨x, rfl, by first | exact H5.out.1 | (have q := H5.out.1; rw [← HAD.out.1, ← HAD.out.2] at q; exact q), H5.out.2⟩
theorem above_any {s : Int} {g n f T : Nat} {L : Int} (hz : Fz s g n f T L) {m : Nat} (hm : m < 18446744073709551616) (e : Int) (w : World) :
    Calls Tryd.prog 16 #[.int .u64 (m : Int), .int .i64 e, .int .i64 s] w fun o w' => ∃ x : Nat, o = .returned (.int .u64 (x : Int)) ∧ NrT f T L ((m + 1) * pN (clE e)) (pD (clE e)) 0 (-1) x ∧ Below w.heap.size w w' := by
  obtain ⟨s1, s2, s3, s4⟩ := hz.sizes
  rcases Nat.lt_or_ge m 18446744073709551615 with h | h
  · rcases Int.lt_or_le 400 e with k | k
    · refine (ab_lu hz h k w).mono ?_
      rintro o w' ⟨rfl, rfl⟩
      exact ⟨_, rfl, by rw [clE_up k]; exact nrt_up s1 s2 s3 (Nat.succ_pos m) _, Below.refl _ _⟩
    · exact ab_lo hz h k w
  · obtain rfl : m = 18446744073709551615 := by omega
    rcases Int.lt_or_le 400 e with k | k
    · refine (ab_hu hz k w).mono ?_
      rintro o w' ⟨rfl, rfl⟩
      exact ⟨_, rfl, by rw [clE_up k]; exact nrt_up s1 s2 s3 (by decide) _, Below.refl _ _⟩
    · rcases Int.lt_or_le e (-400) with k2 | k2
      · refine (ab_hd s k2 w).mono ?_
        rintro o w' ⟨rfl, rfl⟩
        exact ⟨_, rfl, by rw [clE_dn k2]; exact nrt_dn s1 s2 s4 (by decide) _, Below.refl _ _⟩
      · rw [show clE e = e from by unfold clE; omega]
        exact ab_hm hz k2 k w

set_option maxRecDepth 100000 in
set_option maxHeartbeats 1000000 in
theorem right_no {s : Int} {g n f T : Nat} {L : Int} (hz : Fz s g n f T L) {m x : Nat} (hm : m < 18446744073709551616) {e : Int} (h : ∀ y, NrT f T L (m * pN (clE e)) (pD (clE e)) 0 0 y → y = x) (w : World) :
    Calls Tryd.prog 6 #[.int .u64 (m : Int), .int .i64 e, .bool false, .int .i64 s, .int .u64 (x : Int)] w fun o w' => o = .returned (.bool true) ∧ Below w.heap.size w w' := by
  have SZ := rsize_z15 hz w
  have AT : Calls Tryd.prog 15 #[.int .u64 (m : Int), .int .i64 e, .int .i64 s, .int .i64 0] w fun o w' => o = .returned (.int .u64 (x : Int)) ∧ Below w.heap.size w w' := by
    refine (at_any hz hm (t := 0) (.inr (.inl rfl)) e w).mono ?_
    rintro o w' ⟨y, rfl, hy, hb⟩
    rw [h y hy]
    exact ⟨rfl, hb⟩
  clear h
  go_enter Tryd.func6, Tryd.ntmps6
  go_wp2_with fail
  refine SZ.mono ?_
  rintro o w ⟨rfl, rfl⟩
  go_wp2_with fail
  refine AT.mono ?_
  rintro o w1 ⟨rfl, hb⟩
  have B1 : Hid (Below w.heap.size w w1) := hb
  clear hb AT SZ
  go_wp2
  go_ret
  exact ⟨rfl, B1.out⟩
set_option maxRecDepth 100000 in
set_option maxHeartbeats 1000000 in
theorem right_more {s : Int} {g n f T : Nat} {L : Int} (hz : Fz s g n f T L) {m x : Nat} (hm : m < 18446744073709551616) {e : Int} (h : ∀ y, NrT f T L (m * pN (clE e)) (pD (clE e)) 0 1 y → y = x) (k : ∀ y, NrT f T L ((m + 1) * pN (clE e)) (pD (clE e)) 0 (-1) y → y = x) (w : World) :
    Calls Tryd.prog 6 #[.int .u64 (m : Int), .int .i64 e, .bool true, .int .i64 s, .int .u64 (x : Int)] w fun o w' => o = .returned (.bool true) ∧ Below w.heap.size w w' := by
  have SZ := rsize_z15 hz w
  have AT : Calls Tryd.prog 15 #[.int .u64 (m : Int), .int .i64 e, .int .i64 s, .int .i64 1] w fun o w' => o = .returned (.int .u64 (x : Int)) ∧ Below w.heap.size w w' := by
    refine (at_any hz hm (t := 1) (.inr (.inr rfl)) e w).mono ?_
    rintro o w' ⟨y, rfl, hy, hb⟩
    rw [h y hy]
    exact ⟨rfl, hb⟩
  have AB : ∀ W, Calls Tryd.prog 16 #[.int .u64 (m : Int), .int .i64 e, .int .i64 s] W fun o w' => o = .returned (.int .u64 (x : Int)) ∧ Below W.heap.size W w' := fun W => by
    refine (above_any hz hm e W).mono ?_
    rintro o w' ⟨y, rfl, hy, hb⟩
    rw [k y hy]
    exact ⟨rfl, hb⟩
  clear h k
  go_enter Tryd.func6, Tryd.ntmps6
  go_wp2_with fail
  refine SZ.mono ?_
  rintro o w ⟨rfl, rfl⟩
  go_wp2_with fail
  refine AT.mono ?_
  rintro o w1 ⟨rfl, hb⟩
  have B1 : Hid (Below w.heap.size w w1) := hb
  clear hb AT SZ
  go_wp2_with fail
  refine (AB _).mono ?_
  rintro o w2 ⟨rfl, hb⟩
  have B2 : Hid (Below w.heap.size w w2) := B1.out.trans (hb.mono B1.out.size)
  clear hb AB B1
  go_wp2
  go_ret
  exact ⟨congrArg (fun b : Bool => Ending.returned (.bool b)) (by simp), B2.out⟩
set_option maxRecDepth 100000 in
set_option maxHeartbeats 1000000 in
theorem must_no {s : Int} (hs : Sn s) (m e : Int) (w : World) : Calls Tryd.prog 7 #[.int .u64 m, .int .i64 e, .bool false, .int .i64 s] w fun o w' => o = .returned (.bool false) ∧ w' = w := by
  have SZ := rsize_no hs w
  go_enter Tryd.func7, Tryd.ntmps7
  go_wp2_with fail
  refine SZ.mono ?_
  rintro o w ⟨rfl, rfl⟩
  go_wp2
  go_ret
  exact ⟨rfl, rfl⟩
set_option maxRecDepth 100000 in
set_option maxHeartbeats 1000000 in
theorem must_z {s : Int} {g n f T : Nat} {L : Int} (hz : Fz s g n f T L) {m : Nat} (m0 : m ≠ 0) {e : Int} (he : ¬ (0 ≤ e ∧ e ≤ 27)) (w : World) : Calls Tryd.prog 7 #[.int .u64 (m : Int), .int .i64 e, .bool false, .int .i64 s] w fun o w' => o = .returned (.bool false) ∧ w' = w := by
  have SZ := rsize_z15 hz w
  have q0 : ((m : Int) == 0) = false := by rw [beq_eq_false_iff_ne]; omega
  rcases Int.lt_or_le e 0 with c | c
  · have c2 : ¬ 0 ≤ e := by omega
    clear he
    go_enter Tryd.func7, Tryd.ntmps7
    go_wp2_with fail
    refine SZ.mono ?_
    rintro o w ⟨rfl, rfl⟩
    go_wp2
    all_goals first | (exfalso; omega) | skip
    go_ret
    exact ⟨rfl, rfl⟩
  · have c2 : ¬ e ≤ 27 := by omega
    clear he
    go_enter Tryd.func7, Tryd.ntmps7
    go_wp2_with fail
    refine SZ.mono ?_
    rintro o w ⟨rfl, rfl⟩
    go_wp2
    all_goals first | (exfalso; omega) | skip
    go_ret
    exact ⟨congrArg (fun b : Bool => Ending.returned (.bool b)) (decide_eq_false (by omega)), rfl⟩
set_option maxRecDepth 100000 in
set_option maxHeartbeats 1000000 in
theorem sure_of {m e s : Int} {b : Bool} {w : World} (R : Calls Tryd.prog 5 #[.int .u64 m, .int .i64 e, .bool true, .int .i64 s] w fun o w' => ∃ v, o = .returned (.tuple #[v, .bool b]) ∧ Below w.heap.size w w') :
    Calls Tryd.prog 8 #[.int .u64 m, .int .i64 e, .int .i64 s] w fun o w' => o = .returned (.bool b) ∧ Below w.heap.size w w' := by
  go_enter Tryd.func8, Tryd.ntmps8
  go_wp2_with fail
  refine R.mono ?_
  rintro o w1 ⟨v, rfl, hb⟩
  have B1 : Hid (Below w.heap.size w w1) := hb
  clear hb R
  go_wp2
  go_ret
  exact ⟨rfl, B1.out⟩

set_option maxRecDepth 100000 in
set_option maxHeartbeats 2000000 in
theorem rounds_no {s : Int} (hs : Sn s) (m : Nat) (e : Int) (w : World) (hT : Tab w) :
    Calls Tryd.prog 3 #[.int .u64 (m : Int), .int .i64 e, .int .i64 s] w fun o w' => o = .returned (.bool true) ∧ Below w.heap.size w w' := by
  have R := fun b W => round_no hs (m : Int) e b W
  have MU := fun W => must_no hs (m : Int) e W
  have SU := fun W => sure_of (b := false) ((round_no hs (m : Int) e true W).mono fun o w' h => ⟨_, h.1, h.2⟩)
  have HT : Hid (Tab w) := hT
  clear hT
  go_enter Tryd.func3, Tryd.ntmps3
  go_wp2_with fail
  refine (R false _).mono ?_
  rintro o w1 ⟨rfl, b1⟩
  have B1 : Hid (Below w.heap.size w w1) := b1
  clear b1
  go_wp2_with fail
  refine (R true _).mono ?_
  rintro o w2 ⟨rfl, b2⟩
  have B2 : Hid (Below w.heap.size w w2) := B1.out.trans (b2.mono B1.out.size)
  clear b2 B1
  go_wp2_with fail
  refine (MU _).mono ?_
  rintro o w2 ⟨rfl, rfl⟩
  go_wp2_with fail
  refine (SU _).mono ?_
  rintro o w3 ⟨rfl, b3⟩
  have B3 : Hid (Below w.heap.size w w3) := B2.out.trans (b3.mono B2.out.size)
  clear b3 B2
  have S := sure15 w3 (HT.out.below B3.out HT.out.pos)
  go_wp2_with fail
  refine S.mono ?_
  rintro o w4 ⟨rfl, b4⟩
  have B4 : Hid (Below w.heap.size w w4) := B3.out.trans (b4.mono B3.out.size)
  clear b4 B3 S
  go_wp2
  go_ret
  exact ⟨rfl, B4.out⟩
set_option maxRecDepth 100000 in
set_option maxHeartbeats 4000000 in
theorem rounds_z {s : Int} {g n f T : Nat} {L : Int} (hz : Fz s g n f T L) {m : Nat} (hm : m < 18446744073709551616) (e : Int) (w : World) (hT : Tab w) :
    Calls Tryd.prog 3 #[.int .u64 (m : Int), .int .i64 e, .int .i64 s] w fun o w' => o = .returned (.bool true) ∧ Below w.heap.size w w' := by
  have HZ : Hid (Fz s g n f T L ∧ m < 18446744073709551616) := ⟨hz, hm⟩
  have R := fun b W hW => round_ok hz hm e b W hW
  have HT : Hid (Tab w) := hT
  clear hz hm hT
  go_enter Tryd.func3, Tryd.ntmps3
  go_wp2_with fail
  refine (R false _ HT.out).mono ?_
  rintro o w1 ⟨a, ok, rfl, ha, b1⟩
  have B1 : Hid (Below w.heap.size w w1) := b1
  clear b1
  go_wp2_with fail
  refine (R true _ (HT.out.below B1.out HT.out.pos)).mono ?_
  rintro o w2 ⟨b, is, rfl, hb, b2⟩
  have B2 : Hid (Below w.heap.size w w2) := B1.out.trans (b2.mono B1.out.size)
  clear b2 B1 R
  have HA : Hid (Rnd f T L (clE e) m false a ok ∧ Rnd f T L (clE e) m true b is) := ⟨ha, hb⟩
  clear ha hb
  have T0 : 0 < T := Nat.lt_of_lt_of_le Nat.zero_lt_one HZ.out.1.sizes.2.1
  have SU : ∀ W, Tab W → Calls Tryd.prog 8 #[.int .u64 (m : Int), .int .i64 e, .int .i64 s] W fun o w' => o = .returned (.bool is) ∧ Below W.heap.size W w' := fun W hW => by
    refine sure_of ((round_ok HZ.out.1 HZ.out.2 e true W hW).mono ?_)
    rintro o w' ⟨x, ok', rfl, h2, h3⟩
    rw [← HA.out.2.one h2]
    exact ⟨_, rfl, h3⟩
  cases ok <;> cases is
  · have MU := fun W => must_z HZ.out.1 HA.out.1.must.1 (clE_must HA.out.1.must.2) W
    obtain rfl := HA.out.1.unsure
    obtain rfl := HA.out.2.unsure
    clear HA T0
    go_wp2_with fail
    refine (MU _).mono ?_
    rintro o w2 ⟨rfl, rfl⟩
    clear MU
    have SV := SU w2 (HT.out.below B2.out HT.out.pos)
    go_wp2_with fail
    refine SV.mono ?_
    rintro o w5 ⟨rfl, b5⟩
    have B5 : Hid (Below w.heap.size w w5) := B2.out.trans (b5.mono B2.out.size)
    clear b5 SU SV
    have S := sure15 w5 (HT.out.below B5.out HT.out.pos)
    go_wp2_with fail
    refine S.mono ?_
    rintro o w6 ⟨rfl, b6⟩
    have B6 : Hid (Below w.heap.size w w6) := B5.out.trans (b6.mono B5.out.size)
    clear b6 S
    go_wp2
    go_ret
    exact ⟨rfl, B6.out⟩
  · have MU := fun W => must_z HZ.out.1 HA.out.1.must.1 (clE_must HA.out.1.must.2) W
    obtain rfl := HA.out.1.unsure
    have RM := fun W => right_more HZ.out.1 HZ.out.2 (x := b) (e := e) HA.out.2.right1.1 HA.out.2.right1.2 W
    clear HA T0
    go_wp2_with fail
    refine (MU _).mono ?_
    rintro o w2 ⟨rfl, rfl⟩
    clear MU
    go_wp2_with fail
    refine (RM _).mono ?_
    rintro o w4 ⟨rfl, b4⟩
    have B4 : Hid (Below w.heap.size w w4) := B2.out.trans (b4.mono B2.out.size)
    clear b4 RM
    have SV := SU w4 (HT.out.below B4.out HT.out.pos)
    go_wp2_with fail
    refine SV.mono ?_
    rintro o w5 ⟨rfl, b5⟩
    have B5 : Hid (Below w.heap.size w w5) := B4.out.trans (b5.mono B4.out.size)
    clear b5 SU SV
    have S := sure15 w5 (HT.out.below B5.out HT.out.pos)
    go_wp2_with fail
    refine S.mono ?_
    rintro o w6 ⟨rfl, b6⟩
    have B6 : Hid (Below w.heap.size w w6) := B5.out.trans (b6.mono B5.out.size)
    clear b6 S
    go_wp2
    go_ret
    exact ⟨rfl, B6.out⟩
  · have RI := fun W => right_no HZ.out.1 HZ.out.2 (x := a) (e := e) (fun y hy => HA.out.1.right0 T0 hy) W
    obtain rfl := HA.out.2.unsure
    clear HA T0
    go_wp2_with fail
    refine (RI _).mono ?_
    rintro o w3 ⟨rfl, b3⟩
    have B3 : Hid (Below w.heap.size w w3) := B2.out.trans (b3.mono B2.out.size)
    clear b3 RI
    have SV := SU w3 (HT.out.below B3.out HT.out.pos)
    go_wp2_with fail
    refine SV.mono ?_
    rintro o w5 ⟨rfl, b5⟩
    have B5 : Hid (Below w.heap.size w w5) := B3.out.trans (b5.mono B3.out.size)
    clear b5 SU SV
    have S := sure15 w5 (HT.out.below B5.out HT.out.pos)
    go_wp2_with fail
    refine S.mono ?_
    rintro o w6 ⟨rfl, b6⟩
    have B6 : Hid (Below w.heap.size w w6) := B5.out.trans (b6.mono B5.out.size)
    clear b6 S
    go_wp2
    go_ret
    exact ⟨rfl, B6.out⟩
  · have RI := fun W => right_no HZ.out.1 HZ.out.2 (x := a) (e := e) (fun y hy => HA.out.1.right0 T0 hy) W
    have RM := fun W => right_more HZ.out.1 HZ.out.2 (x := b) (e := e) HA.out.2.right1.1 HA.out.2.right1.2 W
    clear HA T0
    go_wp2_with fail
    refine (RI _).mono ?_
    rintro o w3 ⟨rfl, b3⟩
    have B3 : Hid (Below w.heap.size w w3) := B2.out.trans (b3.mono B2.out.size)
    clear b3 RI
    go_wp2_with fail
    refine (RM _).mono ?_
    rintro o w4 ⟨rfl, b4⟩
    have B4 : Hid (Below w.heap.size w w4) := B3.out.trans (b4.mono B3.out.size)
    clear b4 RM
    have SV := SU w4 (HT.out.below B4.out HT.out.pos)
    go_wp2_with fail
    refine SV.mono ?_
    rintro o w5 ⟨rfl, b5⟩
    have B5 : Hid (Below w.heap.size w w5) := B4.out.trans (b5.mono B4.out.size)
    clear b5 SU SV
    have S := sure15 w5 (HT.out.below B5.out HT.out.pos)
    go_wp2_with fail
    refine S.mono ?_
    rintro o w6 ⟨rfl, b6⟩
    have B6 : Hid (Below w.heap.size w w6) := B5.out.trans (b6.mono B5.out.size)
    clear b6 S
    go_wp2
    go_ret
    exact ⟨rfl, B6.out⟩
theorem law_rounds (m : Nat) (hm : m < 18446744073709551616) (e s : Int) (w : World) (hT : Tab w) :
    Calls Tryd.prog 3 #[.int .u64 (m : Int), .int .i64 e, .int .i64 s] w fun o w' => o = .returned (.bool true) ∧ Below w.heap.size w w' := by
  by_cases h : s = 32
  · exact rounds_z (.inl ⟨h, rfl, rfl, rfl, rfl, rfl⟩) hm e w hT
  · by_cases k : s = 64
    · exact rounds_z (.inr ⟨k, rfl, rfl, rfl, rfl, rfl⟩) hm e w hT
    · exact rounds_no ⟨h, k⟩ m e w hT
end Go.Proofs.YtohbggdkopmpfaaDoor
