/-
  What the document's Of and Tens of layer 13 answer.
-/
import Derived.Test.YtlbbilldehlheaaDoorPwW
import Derived.Test.YtlbbilldehlheaaDoorPgC
namespace Go.Proofs.YtlbbilldehlheaaDoor
open Go.RowKit

theorem bl_ln (X : Nat) : bl X = ln X := rfl
/-- What holds of the places at which the document tries. -/
def Pl (A D : Nat) (s0 s : Int) : Prop := (s = s0 ∨ s = s0 - 1) ∧ 2 ^ 127 * (D * 2 ^ (-s).toNat) ≤ A * 2 ^ s.toNat ∧ A * 2 ^ s.toNat < 2 ^ 129 * (D * 2 ^ (-s).toNat) ∧ (s = s0 - 1 → A * 2 ^ s.toNat < 2 ^ 128 * (D * 2 ^ (-s).toNat))
theorem Pl.start {A D : Nat} (a0 : A ≠ 0) (d0 : D ≠ 0) {s0 : Int} (h : s0 = 128 - ((bl A : Int) - (bl D : Int))) : Pl A D s0 s0 := by
  obtain ⟨p, q⟩ := pw_len a0 d0 h
  exact ⟨Or.inl rfl, p, q, fun z => by omega⟩
theorem Pl.bits {A D : Nat} (d0 : D ≠ 0) {s0 s : Int} (h : Pl A D s0 s) : bl (A * 2 ^ s.toNat / (D * 2 ^ (-s).toNat)) = 128 ∨ (bl (A * 2 ^ s.toNat / (D * 2 ^ (-s).toNat)) = 129 ∧ s = s0 ∧ Pl A D s0 (s - 1)) := by
  obtain ⟨h1, h2, h3, h4⟩ := h
  have p : 0 < D * 2 ^ (-s).toNat := Nat.mul_pos (Nat.pos_of_ne_zero d0) (Nat.two_pow_pos _)
  have g1 : 2 ^ 127 ≤ A * 2 ^ s.toNat / (D * 2 ^ (-s).toNat) := (Nat.le_div_iff_mul_le p).2 h2
  have g2 : A * 2 ^ s.toNat / (D * 2 ^ (-s).toNat) < 2 ^ 129 := (Nat.div_lt_iff_lt_mul p).2 h3
  by_cases c : A * 2 ^ s.toNat < 2 ^ 128 * (D * 2 ^ (-s).toNat)
  · exact Or.inl (bl_of (L := 127) g1 ((Nat.div_lt_iff_lt_mul p).2 c))
  · have c' := Nat.le_of_not_lt c
    have e : s = s0 := by
      rcases h1 with z | z
      · exact z
      · exact absurd (h4 z) c
    obtain ⟨q1, q2⟩ := pw_down c' h3
    refine Or.inr ⟨bl_of (L := 128) ((Nat.le_div_iff_mul_le p).2 c') g2, e, Or.inr (by omega), q1, ?_, fun _ => q2⟩
    exact Nat.lt_of_lt_of_le q2 (Nat.mul_le_mul_right _ (by decide))
theorem pl_pw {x s : Int} (hb : bl (5 ^ x.toNat * 2 ^ s.toNat / (5 ^ (-x).toNat * 2 ^ (-s).toNat)) = 128) :
    5 ^ x.toNat * 2 ^ s.toNat / (5 ^ (-x).toNat * 2 ^ (-s).toNat) < 2 ^ 128 ∧ Pw x (5 ^ x.toNat * 2 ^ s.toNat / (5 ^ (-x).toNat * 2 ^ (-s).toNat)) (x - s) ∧ (5 ^ x.toNat * 2 ^ s.toNat % (5 ^ (-x).toNat * 2 ^ (-s).toNat) = 0 ↔ (0 ≤ x ∧ x ≤ 55)) := by
  have p : 0 < 5 ^ (-x).toNat * 2 ^ (-s).toNat := Nat.mul_pos (Nat.pow_pos (by omega)) (Nat.two_pow_pos _)
  have m0 : 5 ^ x.toNat * 2 ^ s.toNat / (5 ^ (-x).toNat * 2 ^ (-s).toNat) ≠ 0 := by
    intro z
    rw [z] at hb
    exact absurd hb (by decide)
  have m1 := bl_le m0
  have m2 := bl_lt (5 ^ x.toNat * 2 ^ s.toNat / (5 ^ (-x).toNat * 2 ^ (-s).toNat))
  rw [hb] at m1 m2
  have dm := Nat.div_add_mod (5 ^ x.toNat * 2 ^ s.toNat) (5 ^ (-x).toNat * 2 ^ (-s).toNat)
  rw [Nat.mul_comm] at dm
  obtain ⟨q, r⟩ := pw_quo (e := x) (s := s) m1 m2 (Nat.mod_lt _ p) dm.symm
  exact ⟨m2, q, by rw [← pw_exact q, r]⟩
theorem five_fits {n : Nat} (h : n ≤ 400) : Fits 100 (5 ^ n) := by
  have a : 5 ^ n ≤ 8 ^ n := Nat.pow_le_pow_left (by omega) n
  rw [show 8 = 2 ^ 3 from rfl, ← Nat.pow_mul] at a
  exact (two_fits (s := 3 * n) (k := 100) (by omega)).le a
theorem fits_shl {L X s k : Nat} (h : Fits L X) (hs : s < 32 * k) : Fits (L + k) (X * 2 ^ s) := h.mul (two_fits hs)
theorem dlen_zero {w : World} {v : Value} {X : Nat} (h : Big.D.NatV w v X) : ∃ ao n c, v = .slice ao n c ∧ (n = 0 ↔ X = 0) ∧ n ≤ maxLen := by
  obtain ⟨ao, n, c, b, o, f, rfl, S, t, rfl⟩ := h
  refine ⟨ao, n, c, rfl, ?_, Nat.le_trans S.le S.cap⟩
  constructor
  · intro z; subst z; rfl
  · intro z
    rcases Nat.eq_zero_or_pos n with q | q
    · exact q
    · have a := Big.Top_ge t q
      have b := Nat.pow_pos (n := n - 1) Big.B_pos
      omega

set_option maxRecDepth 100000 in
set_option maxHeartbeats 4000000 in
theorem rof_yes (x : Int) (h1 : -400 ≤ x) (h2 : x ≤ 400) (w : World) :
    Calls Tryd.prog 7 #[.int .i64 x] w fun e w' => ∃ M E, e = .returned (.tuple #[pwV M E (decide (0 ≤ x ∧ x ≤ 55)), .int .i64 0]) ∧ Pw x M E ∧ Below w.heap.size w w' := by
  obtain ⟨A, hA⟩ : ∃ A, A = 5 ^ x.toNat := ⟨_, rfl⟩
  obtain ⟨D, hD⟩ : ∃ D, D = 5 ^ (-x).toNat := ⟨_, rfl⟩
  have HAD : Hid (A = 5 ^ x.toNat ∧ D = 5 ^ (-x).toNat) := ⟨hA, hD⟩
  have a0 : A ≠ 0 := by rw [hA]; exact Nat.ne_of_gt (Nat.pow_pos (by omega))
  have d0 : D ≠ 0 := by rw [hD]; exact Nat.ne_of_gt (Nat.pow_pos (by omega))
  have fA : Fits 100 A := by rw [hA]; exact five_fits (by omega)
  have fD : Fits 100 D := by rw [hD]; exact five_fits (by omega)
  have bA := bl_fits fA
  have bD := bl_fits fD
  obtain ⟨s0, hs0⟩ : ∃ s0 : Int, s0 = 128 - ((bl A : Int) - (bl D : Int)) := ⟨_, rfl⟩
  have HST : Hid (Pl A D s0 s0) := Pl.start a0 d0 hs0
  have hs1 : -4000 ≤ s0 := by omega
  have hs2 : s0 ≤ 4000 := by omega
  have HF : Hid (Fits 100 A ∧ Fits 100 D ∧ A ≠ 0 ∧ D ≠ 0) := ⟨fA, fD, a0, d0⟩
  obtain ⟨EX, hEX⟩ : ∃ EX, EX = decide (0 ≤ x ∧ x ≤ 55) := ⟨_, rfl⟩
  have HEX : Hid (EX = decide (0 ≤ x ∧ x ≤ 55)) := hEX
  rw [← hEX]
  have BA : ∀ (W : World) (v : Value), Big.D.NatV W v A → Calls Tryd.prog 24 #[v] W fun e w' => e = .returned (.int .i64 (bl A : Int)) ∧ w' = W := fun W v h => dbits_nat h (fA.up (by omega))
  have BD : ∀ (W : World) (v : Value), Big.D.NatV W v D → Calls Tryd.prog 24 #[v] W fun e w' => e = .returned (.int .i64 (bl D : Int)) ∧ w' = W := fun W v h => dbits_nat h (fD.up (by omega))
  have HS0 : Hid (128 - ((bl A : Int) - (bl D : Int)) = s0) := hs0.symm
  generalize bl A = LA at *
  generalize bl D = LD at *
  clear hA hD a0 d0 fA fD hEX hs0
  have c1 : ¬ x < -400 := by omega
  have c2 : ¬ 400 < x := by omega
  go_enter Tryd.func7, Tryd.ntmps7
  go_upto_region 3 with fail
  go_cut [4, 5] (fun u v wx => Big.D.NatV wx u A ∧ Big.D.NatV wx v D ∧ FlB wx w.heap.size (.int .u64 0) (.int .u64 0) (.int .i64 0) (.bool false) ∧ Below w.heap.size w wx)
  case first =>
    rcases Int.lt_trichotomy x 0 with c | c | c
    · obtain ⟨n, hn⟩ : ∃ n : Nat, -x = (n : Int) := ⟨(-x).toNat, by omega⟩
      have P1 := fun W => dpow_any 5 0 (by omega) (by omega) (by omega) W
      have P2 := fun W => dpow_any 5 n (by omega) (by omega) (by omega) W
      have eA : 5 ^ 0 = A := by rw [HAD.out.1, show x.toNat = 0 by omega]
      have eD : 5 ^ n = D := by rw [HAD.out.2, show (-x).toNat = n by omega]
      rw [eA] at P1
      rw [eD] at P2
      simp only [Int.cast_ofNat_Int] at P1 P2
      clear eA eD
      go_wp2_with fail
      all_goals first | (exfalso; omega) | skip
      refine (P1 _).mono ?_
      rintro e w1 ⟨v1, rfl, n1, b1⟩
      have F1 : Hid (FlB w1 w.heap.size _ _ _ _ ∧ Below w.heap.size w w1 ∧ Big.D.NatV w1 v1 A) := ⟨(FlB.new w (.int .u64 0) (.int .u64 0) (.int .i64 0) (.bool false) 31).step b1, ((Below.refl _ _).alloc (Nat.le_refl _) _).trans (b1.mono (by simp)), n1⟩
      clear b1 n1 P1
      go_wp2_with fail
      all_goals first | (exfalso; omega) | skip
      refine (P2 _).mono ?_
      rintro e w2 ⟨v2, rfl, n2, b2⟩
      have F2 : Hid (FlB w2 w.heap.size _ _ _ _ ∧ Below w.heap.size w w2 ∧ Big.D.NatV w2 v1 A ∧ Big.D.NatV w2 v2 D) := ⟨F1.out.1.step b2, F1.out.2.1.trans (b2.mono F1.out.2.1.size), F1.out.2.2.below b2, n2⟩
      clear b2 n2 P2 F1
      go_wp2
      go_meet
      exact ⟨F2.out.2.2.1, F2.out.2.2.2, F2.out.1, F2.out.2.1⟩
    · subst c
      have P1 := fun W => dpow_any 5 0 (by omega) (by omega) (by omega) W
      have P2 := fun W => dpow_any 5 0 (by omega) (by omega) (by omega) W
      have eA : 5 ^ 0 = A := HAD.out.1.symm
      have eD : 5 ^ 0 = D := HAD.out.2.symm
      rw [eA] at P1
      rw [eD] at P2
      simp only [Int.cast_ofNat_Int] at P1 P2
      clear eA eD
      go_wp2_with fail
      all_goals first | (exfalso; omega) | skip
      refine (P1 _).mono ?_
      rintro e w1 ⟨v1, rfl, n1, b1⟩
      have F1 : Hid (FlB w1 w.heap.size _ _ _ _ ∧ Below w.heap.size w w1 ∧ Big.D.NatV w1 v1 A) := ⟨(FlB.new w (.int .u64 0) (.int .u64 0) (.int .i64 0) (.bool false) 31).step b1, ((Below.refl _ _).alloc (Nat.le_refl _) _).trans (b1.mono (by simp)), n1⟩
      clear b1 n1 P1
      go_wp2_with fail
      all_goals first | (exfalso; omega) | skip
      refine (P2 _).mono ?_
      rintro e w2 ⟨v2, rfl, n2, b2⟩
      have F2 : Hid (FlB w2 w.heap.size _ _ _ _ ∧ Below w.heap.size w w2 ∧ Big.D.NatV w2 v1 A ∧ Big.D.NatV w2 v2 D) := ⟨F1.out.1.step b2, F1.out.2.1.trans (b2.mono F1.out.2.1.size), F1.out.2.2.below b2, n2⟩
      clear b2 n2 P2 F1
      go_wp2
      go_meet
      exact ⟨F2.out.2.2.1, F2.out.2.2.2, F2.out.1, F2.out.2.1⟩
    · obtain ⟨n, hn⟩ : ∃ n : Nat, x = (n : Int) := ⟨x.toNat, by omega⟩
      have P1 := fun W => dpow_any 5 n (by omega) (by omega) (by omega) W
      have P2 := fun W => dpow_any 5 0 (by omega) (by omega) (by omega) W
      have eA : 5 ^ n = A := by rw [HAD.out.1, show x.toNat = n by omega]
      have eD : 5 ^ 0 = D := by rw [HAD.out.2, show (-x).toNat = 0 by omega]
      rw [eA] at P1
      rw [eD] at P2
      simp only [Int.cast_ofNat_Int] at P1 P2
      clear eA eD
      rw [← hn] at P1
      clear hn
      go_wp2_with fail
      all_goals first | (exfalso; omega) | skip
      refine (P1 _).mono ?_
      rintro e w1 ⟨v1, rfl, n1, b1⟩
      have F1 : Hid (FlB w1 w.heap.size _ _ _ _ ∧ Below w.heap.size w w1 ∧ Big.D.NatV w1 v1 A) := ⟨(FlB.new w (.int .u64 0) (.int .u64 0) (.int .i64 0) (.bool false) 31).step b1, ((Below.refl _ _).alloc (Nat.le_refl _) _).trans (b1.mono (by simp)), n1⟩
      clear b1 n1 P1
      go_wp2_with fail
      all_goals first | (exfalso; omega) | skip
      refine (P2 _).mono ?_
      rintro e w2 ⟨v2, rfl, n2, b2⟩
      have F2 : Hid (FlB w2 w.heap.size _ _ _ _ ∧ Below w.heap.size w w2 ∧ Big.D.NatV w2 v1 A ∧ Big.D.NatV w2 v2 D) := ⟨F1.out.1.step b2, F1.out.2.1.trans (b2.mono F1.out.2.1.size), F1.out.2.2.below b2, n2⟩
      clear b2 n2 P2 F1
      go_wp2
      go_meet
      exact ⟨F2.out.2.2.1, F2.out.2.2.2, F2.out.1, F2.out.2.1⟩
  case rest =>
  obtain ⟨nA, nD, F1, B1⟩ := hcut
  have L1 := BA _ _ nA
  have L2 := BD _ _ nD
  have HI : Hid (Big.D.NatV wc u4 A ∧ Big.D.NatV wc u5 D ∧ FlB wc w.heap.size (.int .u64 0) (.int .u64 0) (.int .i64 0) (.bool false) ∧ Below w.heap.size w wc) := ⟨nA, nD, F1, B1⟩
  clear BA BD nA nD F1 B1
  go_wp2_with fail
  refine L1.mono ?_
  rintro e wc ⟨rfl, rfl⟩
  go_wp2_with fail
  refine L2.mono ?_
  rintro e wc ⟨rfl, rfl⟩
  clear L1 L2
  go_wp2
  go_loopw [6, 7, 8, 9, 10] (fun sv _ _ _ _ wr => ∃ s : Int, sv = .int .i64 s ∧ s ≤ s0 ∧ s0 - 1 ≤ s ∧ Hid (Pl A D s0 s ∧ Big.D.NatV wr u4 A ∧ Big.D.NatV wr u5 D ∧ FlB wr w.heap.size (.int .u64 0) (.int .u64 0) (.int .i64 0) (.bool false) ∧ Below w.heap.size w wr)) (fun sv _ _ _ _ _ => (intOf sv - s0 + 1).toNat)
  case atStart => exact ⟨s0, by rw [← HS0.out], by omega, by omega, HST.out, HI.out⟩
  case round =>
    clear HI HST HS0
    obtain ⟨s, rfl, hs3, hs4, HR⟩ := hrel
    rcases Int.lt_or_le s 0 with c | c
    · obtain ⟨k, hk⟩ : ∃ k : Nat, -s = (k : Int) := ⟨(-s).toNat, by omega⟩
      have U := dshl_new HR.out.2.2.1 (HF.out.2.1.up (by omega)) k (by omega)
      have eX : A = A * 2 ^ s.toNat := by rw [show s.toNat = 0 by omega, Nat.pow_zero, Nat.mul_one]
      have eY : D * 2 ^ k = D * 2 ^ (-s).toNat := by rw [show (-s).toNat = k by omega]
      rw [eY] at U
      have fX : Fits 900 (A * 2 ^ s.toNat) := by rw [← eX]; exact HF.out.1.up (by omega)
      have fY : Fits 900 (D * 2 ^ (-s).toNat) := by rw [← eY]; exact (fits_shl (k := 200) HF.out.2.1 (by omega)).up (by omega)
      have HX : Hid (A = A * 2 ^ s.toNat) := eX
      clear eX eY
      have HP := (show Hid _ from Pl.bits HF.out.2.2.2 HR.out.1)
      have hY0 : D * 2 ^ (-s).toNat ≠ 0 := Nat.ne_of_gt (Nat.mul_pos (Nat.pos_of_ne_zero HF.out.2.2.2) (Nat.two_pow_pos _))
      have HQ : Hid (bl (A * 2 ^ s.toNat / (D * 2 ^ (-s).toNat)) = 128 → A * 2 ^ s.toNat / (D * 2 ^ (-s).toNat) < 2 ^ 128 ∧ Pw x (A * 2 ^ s.toNat / (D * 2 ^ (-s).toNat)) (x - s) ∧ (A * 2 ^ s.toNat % (D * 2 ^ (-s).toNat) = 0 ↔ (0 ≤ x ∧ x ≤ 55))) := by
        intro hb
        rw [HAD.out.1, HAD.out.2] at hb ⊢
        exact pl_pw hb
      have HFX : Hid (Fits 900 (A * 2 ^ s.toNat) ∧ Fits 900 (D * 2 ^ (-s).toNat) ∧ D * 2 ^ (-s).toNat ≠ 0) := ⟨fX, fY, hY0⟩
      clear fX fY hY0
      generalize hX : A * 2 ^ s.toNat = X at *
      generalize hY : D * 2 ^ (-s).toNat = Y at *
      clear hX hY
      go_wp2_with fail
      refine U.mono ?_
      rintro e w1 ⟨v1, rfl, n1, b1⟩
      have H1 : Hid (Big.D.NatV w1 u4 A ∧ Big.D.NatV w1 u5 D ∧ FlB w1 w.heap.size (.int .u64 0) (.int .u64 0) (.int .i64 0) (.bool false) ∧ Below w.heap.size w w1) := ⟨HR.out.2.1.below b1, HR.out.2.2.1.below b1, HR.out.2.2.2.1.step b1, HR.out.2.2.2.2.trans (b1.mono HR.out.2.2.2.2.size)⟩
      have DV := ddiv_any (X := X) (Y := Y) (by have q := H1.out.1; rw [HX.out] at q; exact q) n1.nat HFX.out.1 HFX.out.2.1 HFX.out.2.2
      clear b1 n1 U
      go_wp2_with fail
      refine DV.mono ?_
      rintro e w2 ⟨vm, vr, rfl, nm, nr, b2⟩
      have H2 : Hid (Big.D.NatV w2 u4 A ∧ Big.D.NatV w2 u5 D ∧ FlB w2 w.heap.size (.int .u64 0) (.int .u64 0) (.int .i64 0) (.bool false) ∧ Below w.heap.size w w2) := ⟨H1.out.1.below b2, H1.out.2.1.below b2, H1.out.2.2.1.step b2, H1.out.2.2.2.trans (b2.mono H1.out.2.2.2.size)⟩
      have BM := dbits_nat nm (fits_le HFX.out.1 (Nat.div_le_self _ _) (by omega))
      clear b2 DV H1 HR
      rcases HP.out with hb | ⟨hb, hse, hpl⟩
      · obtain ⟨q1, q2, q3⟩ := HQ.out hb
        have HQ2 : Hid (Pw x (X / Y) (x - s)) := q2
        rw [hb] at BM
        simp only [Int.cast_ofNat_Int] at BM
        have WD := rwide_ok nm q1
        obtain ⟨ro, rn, rc, rfl, hz, hrl⟩ := dlen_zero nr
        have hex : ((rn : Int) == 0) = EX := by
          rw [HEX.out]
          by_cases z : rn = 0
          · rw [z, decide_eq_true (q3.1 (hz.1 z))]; rfl
          · rw [decide_eq_false (fun q => z (hz.2 (q3.2 q)))]
            exact beq_eq_false_iff_ne.mpr (by omega)
        clear hb q1 q2 q3 HP HQ nm nr hz
        generalize X / Y = M at *
        go_wp2_with fail
        refine BM.mono ?_
        rintro e w2 ⟨rfl, rfl⟩
        go_wp2_with fail
        refine BM.mono ?_
        rintro e w2 ⟨rfl, rfl⟩
        go_wp2_with fail
        refine WD.mono ?_
        rintro e w3 ⟨rfl, b3⟩
        have F3 : Hid (FlB w3 w.heap.size (.int .u64 0) (.int .u64 0) (.int .i64 0) (.bool false) ∧ Below w.heap.size w w3) := ⟨H2.out.2.2.1.step b3, H2.out.2.2.2.trans (b3.mono H2.out.2.2.2.size)⟩
        clear b3 H2 BM WD
        obtain ⟨_, a0, a1, a2, a3, f0, f1, f2, f3⟩ := F3.out.1
        unfold maxLen at hrl
        go_wp2
        refine bodyPost_ret (v := .tuple #[.agg #[.int .u64 (hiW M), .int .u64 (loW M), .int .i64 (x - s), .bool EX], .int .i64 0]) (by simp [results, Tryd.results7, go_sem, World.cell?_setCell_same, World.cell?_setCell_other, a0, a1, a2, a3]) rfl ⟨M, x - s, rfl, HQ2.out, (((F3.out.2.setCell (Nat.le_refl _) _).setCell (Nat.le_refl _) _).setCell (Nat.le_refl _) _).setCell (Nat.le_refl _) _⟩
      · rw [hb] at BM
        simp only [Int.cast_ofNat_Int] at BM
        have HPL : Hid (Pl A D s0 (s - 1) ∧ s = s0) := ⟨hpl, hse⟩
        have hs5 : s0 ≤ s := by omega
        clear hb hpl hse HP HQ nm nr
        go_wp2_with fail
        refine BM.mono ?_
        rintro e w2 ⟨rfl, rfl⟩
        go_wp2
        go_roundw
        case rel => exact ⟨s - 1, rfl, by omega, by omega, HPL.out.1, H2.out⟩
        case measure => simp [intOf]; omega
    · obtain ⟨k, hk⟩ : ∃ k : Nat, s = (k : Int) := ⟨s.toNat, by omega⟩
      have U := dshl_new HR.out.2.1 (HF.out.1.up (by omega)) k (by omega)
      have eX : A * 2 ^ k = A * 2 ^ s.toNat := by rw [show s.toNat = k by omega]
      have eY : D = D * 2 ^ (-s).toNat := by rw [show (-s).toNat = 0 by omega, Nat.pow_zero, Nat.mul_one]
      rw [eX] at U
      have fX : Fits 900 (A * 2 ^ s.toNat) := by rw [← eX]; exact (fits_shl (k := 200) HF.out.1 (by omega)).up (by omega)
      have fY : Fits 900 (D * 2 ^ (-s).toNat) := by rw [← eY]; exact HF.out.2.1.up (by omega)
      have HX : Hid (D = D * 2 ^ (-s).toNat) := eY
      clear eX eY
      rw [← hk] at U
      clear hk
      have HP := (show Hid _ from Pl.bits HF.out.2.2.2 HR.out.1)
      have hY0 : D * 2 ^ (-s).toNat ≠ 0 := Nat.ne_of_gt (Nat.mul_pos (Nat.pos_of_ne_zero HF.out.2.2.2) (Nat.two_pow_pos _))
      have HQ : Hid (bl (A * 2 ^ s.toNat / (D * 2 ^ (-s).toNat)) = 128 → A * 2 ^ s.toNat / (D * 2 ^ (-s).toNat) < 2 ^ 128 ∧ Pw x (A * 2 ^ s.toNat / (D * 2 ^ (-s).toNat)) (x - s) ∧ (A * 2 ^ s.toNat % (D * 2 ^ (-s).toNat) = 0 ↔ (0 ≤ x ∧ x ≤ 55))) := by
        intro hb
        rw [HAD.out.1, HAD.out.2] at hb ⊢
        exact pl_pw hb
      have HFX : Hid (Fits 900 (A * 2 ^ s.toNat) ∧ Fits 900 (D * 2 ^ (-s).toNat) ∧ D * 2 ^ (-s).toNat ≠ 0) := ⟨fX, fY, hY0⟩
      clear fX fY hY0
      generalize hX : A * 2 ^ s.toNat = X at *
      generalize hY : D * 2 ^ (-s).toNat = Y at *
      clear hX hY
      go_wp2_with fail
      refine U.mono ?_
      rintro e w1 ⟨v1, rfl, n1, b1⟩
      have H1 : Hid (Big.D.NatV w1 u4 A ∧ Big.D.NatV w1 u5 D ∧ FlB w1 w.heap.size (.int .u64 0) (.int .u64 0) (.int .i64 0) (.bool false) ∧ Below w.heap.size w w1) := ⟨HR.out.2.1.below b1, HR.out.2.2.1.below b1, HR.out.2.2.2.1.step b1, HR.out.2.2.2.2.trans (b1.mono HR.out.2.2.2.2.size)⟩
      have DV := ddiv_any (X := X) (Y := Y) n1.nat (by have q := H1.out.2.1; rw [HX.out] at q; exact q) HFX.out.1 HFX.out.2.1 HFX.out.2.2
      clear b1 n1 U
      go_wp2_with fail
      refine DV.mono ?_
      rintro e w2 ⟨vm, vr, rfl, nm, nr, b2⟩
      have H2 : Hid (Big.D.NatV w2 u4 A ∧ Big.D.NatV w2 u5 D ∧ FlB w2 w.heap.size (.int .u64 0) (.int .u64 0) (.int .i64 0) (.bool false) ∧ Below w.heap.size w w2) := ⟨H1.out.1.below b2, H1.out.2.1.below b2, H1.out.2.2.1.step b2, H1.out.2.2.2.trans (b2.mono H1.out.2.2.2.size)⟩
      have BM := dbits_nat nm (fits_le HFX.out.1 (Nat.div_le_self _ _) (by omega))
      clear b2 DV H1 HR
      rcases HP.out with hb | ⟨hb, hse, hpl⟩
      · obtain ⟨q1, q2, q3⟩ := HQ.out hb
        have HQ2 : Hid (Pw x (X / Y) (x - s)) := q2
        rw [hb] at BM
        simp only [Int.cast_ofNat_Int] at BM
        have WD := rwide_ok nm q1
        obtain ⟨ro, rn, rc, rfl, hz, hrl⟩ := dlen_zero nr
        have hex : ((rn : Int) == 0) = EX := by
          rw [HEX.out]
          by_cases z : rn = 0
          · rw [z, decide_eq_true (q3.1 (hz.1 z))]; rfl
          · rw [decide_eq_false (fun q => z (hz.2 (q3.2 q)))]
            exact beq_eq_false_iff_ne.mpr (by omega)
        clear hb q1 q2 q3 HP HQ nm nr hz
        generalize X / Y = M at *
        go_wp2_with fail
        refine BM.mono ?_
        rintro e w2 ⟨rfl, rfl⟩
        go_wp2_with fail
        refine BM.mono ?_
        rintro e w2 ⟨rfl, rfl⟩
        go_wp2_with fail
        refine WD.mono ?_
        rintro e w3 ⟨rfl, b3⟩
        have F3 : Hid (FlB w3 w.heap.size (.int .u64 0) (.int .u64 0) (.int .i64 0) (.bool false) ∧ Below w.heap.size w w3) := ⟨H2.out.2.2.1.step b3, H2.out.2.2.2.trans (b3.mono H2.out.2.2.2.size)⟩
        clear b3 H2 BM WD
        obtain ⟨_, a0, a1, a2, a3, f0, f1, f2, f3⟩ := F3.out.1
        unfold maxLen at hrl
        go_wp2
        refine bodyPost_ret (v := .tuple #[.agg #[.int .u64 (hiW M), .int .u64 (loW M), .int .i64 (x - s), .bool EX], .int .i64 0]) (by simp [results, Tryd.results7, go_sem, World.cell?_setCell_same, World.cell?_setCell_other, a0, a1, a2, a3]) rfl ⟨M, x - s, rfl, HQ2.out, (((F3.out.2.setCell (Nat.le_refl _) _).setCell (Nat.le_refl _) _).setCell (Nat.le_refl _) _).setCell (Nat.le_refl _) _⟩
      · rw [hb] at BM
        simp only [Int.cast_ofNat_Int] at BM
        have HPL : Hid (Pl A D s0 (s - 1) ∧ s = s0) := ⟨hpl, hse⟩
        have hs5 : s0 ≤ s := by omega
        clear hb hpl hse HP HQ nm nr
        go_wp2_with fail
        refine BM.mono ?_
        rintro e w2 ⟨rfl, rfl⟩
        go_wp2
        go_roundw
        case rel => exact ⟨s - 1, rfl, by omega, by omega, HPL.out.1, H2.out⟩
        case measure => simp [intOf]; omega
set_option maxRecDepth 100000 in
set_option maxHeartbeats 1000000 in
theorem rof_no (x : Int) (h : x < -400 ∨ 400 < x) (w : World) :
    Calls Tryd.prog 7 #[.int .i64 x] w fun e w' => e = .returned (.tuple #[.agg #[.int .u64 0, .int .u64 0, .int .i64 0, .bool false], .int .i64 1]) ∧ Below w.heap.size w w' := by
  by_cases c : x < -400
  · go_enter Tryd.func7, Tryd.ntmps7
    go_wp2
    refine bodyPost_ret (v := .tuple #[.agg #[.int .u64 0, .int .u64 0, .int .i64 0, .bool false], .int .i64 1]) (by simp [results, Tryd.results7, go_sem]) rfl ⟨rfl, (Below.refl _ _).alloc (Nat.le_refl _) _⟩
  · have c2 : 400 < x := by omega
    go_enter Tryd.func7, Tryd.ntmps7
    go_wp2
    refine bodyPost_ret (v := .tuple #[.agg #[.int .u64 0, .int .u64 0, .int .i64 0, .bool false], .int .i64 1]) (by simp [results, Tryd.results7, go_sem]) rfl ⟨rfl, (Below.refl _ _).alloc (Nat.le_refl _) _⟩

end Go.Proofs.YtlbbilldehlheaaDoor
