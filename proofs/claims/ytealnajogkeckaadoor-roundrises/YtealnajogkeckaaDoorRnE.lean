/-
  What quotient of round answers.
-/
import Derived.Test.YtealnajogkeckaaDoorRnD
import Derived.Deep.DeepCutAuto
namespace Go.Proofs.YtealnajogkeckaaDoor
open Go.RowKit

/-- A quotient with 63 or 64 bits, and what is left. -/
def Qt (X Y q r a b : Nat) : Prop := r < Y * 2 ^ b ∧ q * (Y * 2 ^ b) + r = X * 2 ^ a ∧ (a : Int) - (b : Int) = 63 + (bl Y : Int) - (bl X : Int)
theorem qt_top {X Y a b : Nat} (y0 : Y ≠ 0) (h : (a : Int) - (b : Int) = 63 + (bl Y : Int) - (bl X : Int)) : X * 2 ^ a < 2 ^ 64 * (Y * 2 ^ b) := by
  have p := bl_pos y0
  have l := bl_le y0
  refine Nat.lt_of_lt_of_le (Nat.mul_lt_mul_of_pos_right (bl_lt X) (Nat.two_pow_pos a)) ?_
  refine Nat.le_trans ?_ (Nat.mul_le_mul_left _ (Nat.mul_le_mul_right _ l))
  rw [← Nat.pow_add, ← Nat.pow_add, ← Nat.pow_add]
  exact Nat.pow_le_pow_right (by omega) (by omega)
theorem Qt.lt {X Y q r a b : Nat} (y0 : Y ≠ 0) (h : Qt X Y q r a b) : q < 2 ^ 64 := by
  have t := qt_top y0 h.2.2
  rw [← h.2.1] at t
  exact Nat.lt_of_mul_lt_mul_right (Nat.lt_of_le_of_lt (Nat.le_add_right _ r) t)
theorem Qt.ge {X Y q r a b : Nat} (x0 : X ≠ 0) (h : Qt X Y q r a b) : 2 ^ 62 ≤ q := by
  obtain ⟨h1, h2, h3⟩ := h
  have p := bl_pos x0
  have l := bl_le x0
  have low : 2 ^ 62 * (Y * 2 ^ b) ≤ X * 2 ^ a := by
    refine Nat.le_trans (Nat.mul_le_mul_left _ (Nat.mul_le_mul_right _ (Nat.le_of_lt (bl_lt Y)))) ?_
    refine Nat.le_trans ?_ (Nat.mul_le_mul_right _ l)
    rw [← Nat.pow_add, ← Nat.pow_add, ← Nat.pow_add]
    exact Nat.pow_le_pow_right (by omega) (by omega)
  rw [← h2] at low
  have k : 2 ^ 62 * (Y * 2 ^ b) < (q + 1) * (Y * 2 ^ b) := by
    rw [Nat.add_mul, Nat.one_mul]
    exact Nat.lt_of_le_of_lt low (Nat.add_lt_add_left h1 _)
  exact Nat.le_of_lt_succ (Nat.lt_of_mul_lt_mul_right k)
theorem Qt.none {Y q r a b : Nat} (y0 : Y ≠ 0) (h : Qt 0 Y q r a b) : q = 0 ∧ r = 0 := by
  obtain ⟨h1, h2, h3⟩ := h
  rw [Nat.zero_mul] at h2
  have p := Nat.mul_pos (Nat.pos_of_ne_zero y0) (Nat.two_pow_pos b)
  rcases Nat.eq_zero_or_pos q with c | c
  · exact ⟨c, by omega⟩
  · have := Nat.mul_pos c p; omega
theorem Qt.eqv {X Y q r a b : Nat} {e : Int} (h : Qt X Y q r a b) : Eqv (X * (Y * 2 ^ b)) e ((q * (Y * 2 ^ b) + r) * Y) (e - (63 + (bl Y : Int) - (bl X : Int))) := by
  obtain ⟨h1, h2, h3⟩ := h
  rw [h2, ← h3]
  have s1 := Eqv.shl (X * Y) (e + b) b
  have s2 := Eqv.shl (X * Y) (e + b) a
  rw [show e + (b : Int) - b = e from by omega] at s1
  rw [show e + (b : Int) - (a : Int) = e - ((a : Int) - b) from by omega] at s2
  rw [show X * (Y * 2 ^ b) = X * Y * 2 ^ b from by rw [Nat.mul_assoc], show X * 2 ^ a * Y = X * Y * 2 ^ a from Nat.mul_right_comm _ _ _]
  exact s1.symm.trans s2
theorem qt_step {X lw q r i a : Nat} (h : q * lw + r = X * 2 ^ (a + i)) : (2 * q) * lw + 2 * r = X * 2 ^ (a + (i + 1)) := by
  rw [← Nat.add_assoc, Nat.pow_succ, ← Nat.mul_assoc, ← h, Nat.mul_assoc 2, Nat.add_mul]; omega
theorem qt_half {X lw q r i a l : Nat} (t : X * 2 ^ (a + l) < 2 ^ 64 * lw) (h : q * lw + r = X * 2 ^ (a + i)) (hi : i < l) : q < 9223372036854775808 := by
  have e : X * 2 ^ (a + l) = X * 2 ^ (a + i) * 2 ^ (l - i) := by rw [Nat.mul_assoc, ← Nat.pow_add]; congr 2; omega
  rw [e, ← h] at t
  have two : 2 ≤ 2 ^ (l - i) := by
    have := Nat.pow_le_pow_right (n := 2) (by omega) (show 1 ≤ l - i by omega)
    omega
  have t2 := Nat.lt_of_le_of_lt (Nat.mul_le_mul_left (q * lw + r) two) t
  apply Nat.lt_of_not_le
  intro c
  have := Nat.mul_le_mul_right lw c
  omega

set_option maxRecDepth 100000 in
set_option maxHeartbeats 1000000 in
theorem quot_ok {w : World} (hT : Tab w) {vn vd : Value} {X Y : Nat} (hn : NatV w vn X) (hd : NatV w vd Y) (y0 : Y ≠ 0) :
    Calls Tryd.prog 34 #[vn, vd] w fun e w' => ∃ q r a b : Nat, e = .returned (.tuple #[.int .u64 (q : Int), .int .i64 (63 + (bl Y : Int) - (bl X : Int)), .bool (decide (r ≠ 0))]) ∧ Qt X Y q r a b ∧ Below w.heap.size w w' := by
  have H1 := bits_nat hn
  have hN := nat_bl hn
  have hM := nat_bl hd
  have H0 : Hid (NatV w vn X ∧ NatV w vd Y ∧ Tab w ∧ Y ≠ 0) := ⟨hn, hd, hT, y0⟩
  clear hn hd hT y0
  obtain ⟨N, eN⟩ : ∃ N, bl X = N := ⟨_, rfl⟩
  obtain ⟨M, eM⟩ : ∃ M, bl Y = M := ⟨_, rfl⟩
  rw [eN] at H1 hN ⊢
  rw [eM] at hM ⊢
  have HM : Hid (bl X = N ∧ bl Y = M) := ⟨eN, eM⟩
  clear eN eM
  go_enter Tryd.func34, Tryd.ntmps34
  go_wp2_with fail
  refine H1.mono ?_
  rintro e w1 ⟨rfl, b1⟩
  have H2 := bits_nat (H0.out.2.1.below b1)
  rw [HM.out.2] at H2
  have B1 : Hid (Below w.heap.size w w1) := b1
  clear b1 H1
  go_wp2_with fail
  refine H2.mono ?_
  rintro e w2 ⟨rfl, b2⟩
  have B2 : Hid (Below w.heap.size w w2) := B1.out.trans (b2.mono B1.out.size)
  clear b2 H2 B1
  go_upto_region 4 with fail
  go_cut [11] (fun s wx => wx = w2 ∧ ∃ l : Nat, s = .int .i64 (l : Int) ∧ (l : Int) = max 0 (63 + (M : Int) - 8192))
  case first =>
    by_cases c : 8192 < 63 + (M : Int)
    · obtain ⟨l, hl⟩ : ∃ l : Nat, 63 + (M : Int) - 8192 = (l : Int) := ⟨(63 + (M : Int) - 8192).toNat, by omega⟩
      go_wp2
      all_goals first | (exfalso; omega) | skip
      go_meet
      exact ⟨rfl, l, rfl, by omega⟩
    · go_wp2
      all_goals first | (exfalso; omega) | skip
      go_meet
      exact ⟨rfl, 0, rfl, by omega⟩
  case rest =>
  obtain ⟨hcw, l, rfl, hl⟩ := hcut
  subst hcw
  have hl2 : l ≤ 63 := by omega
  have HL : Hid ((l : Int) = max 0 (63 + (M : Int) - 8192)) := hl
  clear hl
  go_upto_region 5 with fail
  go_cut [12, 13] (fun u v wx => v = .nilIface ∧ ∃ a : Nat, NatV wx u (X * 2 ^ a) ∧ Below w.heap.size w wx ∧ (a : Int) = max 0 (63 + (M : Int) - (N : Int) - (l : Int)))
  case first =>
    by_cases c : 0 < 63 + (M : Int) - (N : Int) - (l : Int)
    · obtain ⟨a, ha⟩ : ∃ a : Nat, 63 + (M : Int) - (N : Int) - (l : Int) = (a : Int) := ⟨(63 + (M : Int) - (N : Int) - (l : Int)).toNat, by omega⟩
      have e0 : a ≤ 8192 ∧ bl X + a ≤ 64 * 128 := by have := HM.out; have := HL.out; omega
      have T := shl_ok (H0.out.1.below B2.out) a (pow_fit e0.2) e0.1
      clear e0
      go_wp2_with fail
      all_goals first | (exfalso; omega) | skip
      refine T.mono ?_
      rintro e wa ⟨va, rfl, na, ba⟩
      have N1 : Hid (NatV wa va (X * 2 ^ a) ∧ Below wc.heap.size wc wa) := ⟨na, ba⟩
      clear na ba T
      go_wp2
      go_meet
      exact ⟨rfl, a, N1.out.1, B2.out.trans (N1.out.2.mono B2.out.size), by omega⟩
    · have e0 : bl X + 0 ≤ 64 * 128 := by have := HM.out; have := HL.out; omega
      have T := shl_ok (H0.out.1.below B2.out) 0 (pow_fit e0) (by omega)
      clear e0
      rw [show ((0 : Nat) : Int) = 0 from rfl] at T
      go_wp2_with fail
      all_goals first | (exfalso; omega) | skip
      refine T.mono ?_
      rintro e wa ⟨va, rfl, na, ba⟩
      have N1 : Hid (NatV wa va (X * 2 ^ 0) ∧ Below wc.heap.size wc wa) := ⟨na, ba⟩
      clear na ba T
      go_wp2
      go_meet
      exact ⟨rfl, 0, N1.out.1, B2.out.trans (N1.out.2.mono B2.out.size), by omega⟩
  case rest =>
  obtain ⟨rfl, a, na, ba, ha⟩ := hcut
  have N3 : Hid (NatV wc u12 (X * 2 ^ a) ∧ Below w.heap.size w wc ∧ (a : Int) = max 0 (63 + (M : Int) - (N : Int) - (l : Int))) := ⟨na, ba, ha⟩
  clear na ba ha
  go_upto_region 6 with fail
  go_cut [14, 15] (fun u v wx => v = .nilIface ∧ ∃ b : Nat, NatV wx u (Y * 2 ^ b) ∧ Below w.heap.size w wx ∧ NatV wx u12 (X * 2 ^ a) ∧ (b : Int) = max 0 ((l : Int) - (63 + (M : Int) - (N : Int))))
  case first =>
    by_cases c : 0 < (l : Int) - (63 + (M : Int) - (N : Int))
    · obtain ⟨b, hb⟩ : ∃ b : Nat, (l : Int) - (63 + (M : Int) - (N : Int)) = (b : Int) := ⟨((l : Int) - (63 + (M : Int) - (N : Int))).toNat, by omega⟩
      have e0 : b ≤ 8192 ∧ bl Y + b ≤ 64 * 128 := by have := HM.out; have := HL.out; omega
      have T := shl_ok (H0.out.2.1.below N3.out.2.1) b (pow_fit e0.2) e0.1
      clear e0
      go_wp2_with fail
      all_goals first | (exfalso; omega) | skip
      refine T.mono ?_
      rintro e wa ⟨va, rfl, na, ba⟩
      have N1 : Hid (NatV wa va (Y * 2 ^ b) ∧ Below wc.heap.size wc wa) := ⟨na, ba⟩
      clear na ba T
      go_wp2
      go_meet
      exact ⟨rfl, b, N1.out.1, N3.out.2.1.trans (N1.out.2.mono N3.out.2.1.size), N3.out.1.below N1.out.2, by omega⟩
    · have e0 : bl Y + 0 ≤ 64 * 128 := by have := HM.out; have := HL.out; omega
      have T := shl_ok (H0.out.2.1.below N3.out.2.1) 0 (pow_fit e0) (by omega)
      clear e0
      rw [show ((0 : Nat) : Int) = 0 from rfl] at T
      go_wp2_with fail
      all_goals first | (exfalso; omega) | skip
      refine T.mono ?_
      rintro e wa ⟨va, rfl, na, ba⟩
      have N1 : Hid (NatV wa va (Y * 2 ^ 0) ∧ Below wc.heap.size wc wa) := ⟨na, ba⟩
      clear na ba T
      go_wp2
      go_meet
      exact ⟨rfl, 0, N1.out.1, N3.out.2.1.trans (N1.out.2.mono N3.out.2.1.size), N3.out.1.below N1.out.2, by omega⟩
  case rest =>
  obtain ⟨rfl, b, nb, bb, nb2, hb⟩ := hcut
  have HT := H0.out.2.2.1.next bb
  have hl0 : Y * 2 ^ b ≠ 0 := Nat.mul_ne_zero H0.out.2.2.2 (Nat.ne_of_gt (Nat.two_pow_pos b))
  have D := div_ok HT nb2 nb hl0
  have hab : ((a + l : Nat) : Int) - (b : Int) = 63 + (bl Y : Int) - (bl X : Int) := by
    have h1 := N3.out.2.2
    have h2 := HM.out
    have h3 := HL.out
    rw [h2.1, h2.2]
    omega
  have top : X * 2 ^ (a + l) < 2 ^ 64 * (Y * 2 ^ b) := qt_top H0.out.2.2.2 hab
  have N4 : Hid (NatV wc u14 (Y * 2 ^ b) ∧ Below w.heap.size w wc ∧ Y * 2 ^ b ≠ 0 ∧ ((a + l : Nat) : Int) - (b : Int) = 63 + (bl Y : Int) - (bl X : Int) ∧ X * 2 ^ (a + l) < 2 ^ 64 * (Y * 2 ^ b)) := ⟨nb, bb, hl0, hab, top⟩
  clear nb bb nb2 hb HT hl0 hab top N3 B2
  generalize hlw : Y * 2 ^ b = lw at *
  have q0 : X * 2 ^ a / lw < 18446744073709551616 := by
    rw [Nat.div_lt_iff_lt_mul (Nat.pos_of_ne_zero N4.out.2.2.1)]
    refine Nat.lt_of_le_of_lt (Nat.mul_le_mul_left X (Nat.pow_le_pow_right (by omega) (Nat.le_add_right a l))) ?_
    exact N4.out.2.2.2.2
  have e0 : X * 2 ^ a / lw * lw + X * 2 ^ a % lw = X * 2 ^ (a + 0) := by rw [Nat.mul_comm]; exact Nat.div_add_mod _ _
  have r0 : X * 2 ^ a % lw < lw := Nat.mod_lt _ (Nat.pos_of_ne_zero N4.out.2.2.1)
  have N5 : Hid (X * 2 ^ a / lw * lw + X * 2 ^ a % lw = X * 2 ^ (a + 0) ∧ X * 2 ^ a % lw < lw ∧ Y * 2 ^ b = lw) := ⟨e0, r0, hlw⟩
  clear e0 r0 hlw
  generalize X * 2 ^ a / lw = q at *
  generalize X * 2 ^ a % lw = r at *
  go_wp2_with fail
  refine D.mono ?_
  rintro e w5 ⟨v1, v2, rfl, n1, n2, b5⟩
  have W := word_natv n1 q0
  have N6 : Hid (NatV w5 v2 r ∧ NatV w5 u14 lw ∧ Below w.heap.size w w5) := ⟨n2, N4.out.1.below b5, N4.out.2.1.trans (b5.mono N4.out.2.1.size)⟩
  clear n1 n2 b5 D
  go_wp2_with fail
  refine W.mono ?_
  rintro e w6 ⟨rfl, b6⟩
  have N7 : Hid (NatV w6 v2 r ∧ NatV w6 u14 lw ∧ Below w.heap.size w w6) := ⟨N6.out.1.below b6, N6.out.2.1.below b6, N6.out.2.2.trans (b6.mono N6.out.2.2.size)⟩
  clear b6 N6 W
  go_wp2
  go_loopw [4, 17, 68] (fun qv rv iv wr => ∃ (i q r : Nat), iv = .int .i64 (i : Int) ∧ qv = .int .u64 (q : Int) ∧ i ≤ l ∧ Hid (NatV wr rv r ∧ NatV wr u14 lw ∧ Below w.heap.size w wr ∧ q * lw + r = X * 2 ^ (a + i) ∧ r < lw)) (fun _ _ iv _ => (l - intOf iv).toNat)
  case atStart => exact ⟨0, q, r, rfl, rfl, by omega, N7.out.1, N7.out.2.1, N7.out.2.2, N5.out.1, N5.out.2.1⟩
  case round =>
    clear N7 q0
    have HY := N5.out.2.2
    clear N5
    obtain ⟨i, q, r, rfl, rfl, hi, HI⟩ := hrel
    by_cases c : i < l
    · have hq := qt_half N4.out.2.2.2.2 HI.out.2.2.2.1 c
      by_cases cc : 2 * r < lw
      · have T := next_low HI.out.1 HI.out.2.1 hq cc
        have F : Hid ((2 * q) * lw + 2 * r = X * 2 ^ (a + (i + 1)) ∧ 2 * r < lw) := ⟨qt_step HI.out.2.2.2.1, cc⟩
        clear hq cc
        generalize 2 * q = q' at *
        generalize 2 * r = r' at *
        go_wp2_with fail
        refine T.mono ?_
        rintro e w7 ⟨v7, rfl, n7, b7⟩
        have N8 : Hid (NatV w7 v7 r' ∧ NatV w7 u14 lw ∧ Below w.heap.size w w7) := ⟨n7, HI.out.2.1.below b7, HI.out.2.2.1.trans (b7.mono HI.out.2.2.1.size)⟩
        clear n7 b7 T
        go_wp2
        go_roundw
        case rel => exact ⟨i + 1, q', r', by push_cast; rfl, rfl, by omega, N8.out.1, N8.out.2.1, N8.out.2.2, F.out.1, F.out.2⟩
        case measure => simp [intOf]; omega
      · have T := next_high HI.out.1 HI.out.2.1 hq (by omega) HI.out.2.2.2.2
        have F : Hid ((2 * q + 1) * lw + (2 * r - lw) = X * 2 ^ (a + (i + 1)) ∧ 2 * r - lw < lw) := by
          have h := qt_step HI.out.2.2.2.1
          have h2 := HI.out.2.2.2.2
          refine ⟨?_, by omega⟩
          rw [← h, Nat.add_mul, Nat.one_mul]
          omega
        clear hq cc
        generalize 2 * q + 1 = q' at *
        generalize 2 * r - lw = r' at *
        go_wp2_with fail
        refine T.mono ?_
        rintro e w7 ⟨v7, rfl, n7, b7⟩
        have N8 : Hid (NatV w7 v7 r' ∧ NatV w7 u14 lw ∧ Below w.heap.size w w7) := ⟨n7, HI.out.2.1.below b7, HI.out.2.2.1.trans (b7.mono HI.out.2.2.1.size)⟩
        clear n7 b7 T
        go_wp2
        go_roundw
        case rel => exact ⟨i + 1, q', r', by push_cast; rfl, rfl, by omega, N8.out.1, N8.out.2.1, N8.out.2.2, F.out.1, F.out.2⟩
        case measure => simp [intOf]; omega
    · obtain rfl : i = l := by omega
      obtain ⟨ao, n, cp, rfl, hn0, hn⟩ := nat_slice HI.out.1
      have F : Hid (Qt X Y q r (a + i) b) := ⟨by rw [HY]; exact HI.out.2.2.2.2, by rw [HY]; exact HI.out.2.2.2.1, N4.out.2.2.2.1⟩
      have dn : decide (0 < n) = decide (r ≠ 0) := by
        rw [decide_eq_decide]; omega
      clear hn0
      go_wp2
      rw [show (!decide (r = 0)) = decide (r ≠ 0) from by simp]
      exact bodyPost_ret (v := .tuple #[.int .u64 (q : Int), .int .i64 (63 + (M : Int) - (N : Int)), .bool (decide (r ≠ 0))]) (by simp [results, Tryd.results34, go_sem]) rfl ⟨q, r, a + i, b, rfl, F.out, HI.out.2.2.1⟩
end Go.Proofs.YtealnajogkeckaaDoor
