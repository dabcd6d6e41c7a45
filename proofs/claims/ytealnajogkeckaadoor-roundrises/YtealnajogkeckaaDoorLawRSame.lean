/-
  The law RoundSame: how a number is written is nothing to its float.
-/
import Derived.Test.YtealnajogkeckaaDoorRnL
import Derived.Deep.DeepCutAuto
namespace Go.Proofs.YtealnajogkeckaaDoor
open Go.RowKit

/-- A twin of a number's words is the number. -/
theorem twin_nat {w : World} {ao : Option Addr} {n cn bn on : Nat} {F : Nat → Nat} (S : Sl w ao n cn bn on F) (h : verr F n = 0) (W : World) (hb : Below w.heap.size w W) : Calls Tryd.prog 9 #[.slice ao n cn] W fun e w' => ∃ v, e = .returned v ∧ NatV w' v (V F n) ∧ Below W.heap.size W w' := by
  obtain ⟨h8, _⟩ := verr_nat h
  refine (twin_any (S.below hb) (by omega)).mono ?_
  rintro e w' ⟨ao', c', b', rfl, s', _, b⟩
  exact ⟨_, rfl, natv_mk s' h, b⟩
theorem bl_mul (a b : Nat) : bl (a * b) ≤ bl a + bl b := by
  apply bl_mono_le
  rw [Nat.pow_add]
  rcases Nat.eq_zero_or_pos b with h | h
  · subst h
    rw [Nat.mul_zero]
    exact Nat.mul_pos (Nat.two_pow_pos _) (Nat.two_pow_pos _)
  · exact Nat.lt_of_lt_of_le (Nat.mul_lt_mul_of_pos_right (bl_lt a) h) (Nat.mul_le_mul_left _ (Nat.le_of_lt (bl_lt b)))
theorem mul_fit {a b K : Nat} (h : bl a + bl b ≤ 64 * K) : a * b < B ^ K := by
  have q := pow_fit (X := a * b) (s := 0) (K := K) (by have := bl_mul a b; omega)
  rw [Nat.pow_zero, Nat.mul_one] at q
  exact q
theorem same_rat (s : Int) (c : Bool) (X Y by' j : Nat) (e : Int) (y0 : Y ≠ 0) (b0 : by' ≠ 0) (e0 : -1073741824 ≤ e) (e1 : e ≤ 1073741824) (hj : j < 100) : ∃ (y : Int) (k : Nat), (∀ W vn vd, Tab W → NatV W vn (X) → NatV W vd (Y) → Calls Tryd.prog 10 #[.int .i64 s, .bool c, vn, vd, .int .i64 e] W fun x w' => x = .returned (.tuple #[.int .u64 y, errV k]) ∧ Below W.heap.size W w') ∧ (∀ W vn vd, Tab W → NatV W vn (X * by') → NatV W vd (Y * by') → Calls Tryd.prog 10 #[.int .i64 s, .bool c, vn, vd, .int .i64 e] W fun x w' => x = .returned (.tuple #[.int .u64 y, errV k]) ∧ Below W.heap.size W w') ∧ (∀ W vn vd, Tab W → NatV W vn (X * by' * 2 ^ j) → NatV W vd (Y * by') → Calls Tryd.prog 10 #[.int .i64 s, .bool c, vn, vd, .int .i64 (e - (j : Int))] W fun x w' => x = .returned (.tuple #[.int .u64 y, errV k]) ∧ Below W.heap.size W w') := by
  rcases fz_of s with h | ⟨g, n', f, T, L, hz⟩
  · exact ⟨0, 5, fun W vn vd _ _ _ => ratio_no h c vn vd e W, fun W vn vd _ _ _ => ratio_no h c vn vd e W, fun W vn vd _ _ _ => ratio_no h c vn vd _ W⟩
  · have hf : 0 < f := by rcases hz with ⟨_, _, _, h, _⟩ | ⟨_, _, _, h, _⟩ <;> omega
    have yb : Y * by' ≠ 0 := Nat.mul_ne_zero y0 b0
    have s2 : rdA f T L X Y e false = rdA f T L (X * by') (Y * by') e false := by
      refine rdA_same hf y0 yb ?_
      rw [show X * (Y * by') = X * by' * Y from by rw [Nat.mul_comm Y by', Nat.mul_assoc]]
      exact Eqv.rfl' _ _
    have s3 : rdA f T L X Y e false = rdA f T L (X * by' * 2 ^ j) (Y * by') (e - (j : Int)) false := by
      refine rdA_same hf y0 yb ?_
      have q := Eqv.shl (X * by' * Y) e j
      rw [show X * (Y * by') = X * by' * Y from by rw [Nat.mul_comm Y by', Nat.mul_assoc], show X * by' * 2 ^ j * Y = X * by' * Y * 2 ^ j from Nat.mul_right_comm _ _ _]
      exact q
    refine ⟨((sgd g c (rdA f T L X Y e false).1 : Nat) : Int), if (rdA f T L X Y e false).2 then 4 else 0, fun W vn vd hW h1 h2 => ?_, fun W vn vd hW h1 h2 => ?_, fun W vn vd hW h1 h2 => ?_⟩
    · rw [← anV_err]
      exact ratio_ok hz c (by omega) (by omega) hW h1 h2 y0
    · rw [← anV_err, s2]
      exact ratio_ok hz c (by omega) (by omega) hW h1 h2 yb
    · rw [← anV_err, s3]
      exact ratio_ok hz c (by omega) (by omega) hW h1 h2 yb
set_option maxRecDepth 100000 in
set_option maxHeartbeats 4000000 in
theorem law_rsame {w : World} (hT : Tab w) (s : Int) (c : Bool) {ao : Option Addr} {n cn bn on : Nat} {F : Nat → Nat} (S : Sl w ao n cn bn on F) {bo : Option Addr} {m cm bm om : Nat} {G : Nat → Nat} (S' : Sl w bo m cm bm om G) (e : Int) (by' : Nat) (hby : by' < 18446744073709551616) (nn : Int) (nn0 : -9223372036854775808 ≤ nn) (nn1 : nn ≤ 9223372036854775807) : Calls Tryd.prog 7 #[.agg #[.int .i64 s, .bool c, .slice ao n cn, .slice bo m cm, .int .i64 e], .int .u64 (by' : Int), .int .i64 nn] w fun x w' => x = .returned (.bool true) ∧ Below w.heap.size w w' := by
  have V1 := fun W (hb : Below w.heap.size w W) => rvalid_any (S.below hb)
  have V2 := fun W (hb : Below w.heap.size w W) => rvalid_any (S'.below hb)
  have HW := fun W hW => works_any W hW
  have B0 : Hid (Below w.heap.size w (w.alloc (.cells #[.int .i64 s, .bool c, .slice ao n cn, .slice bo m cm, .int .i64 e] 24))) := (Below.refl _ _).alloc (Nat.le_refl _) _
  have X0 : Hid (FvB (w.alloc (.cells #[.int .i64 s, .bool c, .slice ao n cn, .slice bo m cm, .int .i64 e] 24)) w.heap.size (.int .i64 s) (.bool c) (.slice ao n cn) (.slice bo m cm) (.int .i64 e)) := FvB.new w _ _ _ _ _ _
  have nl : n < 9223372036854775808 := by have a := S.le; have b := S.cap; unfold maxLen at b; omega
  have ml : m < 9223372036854775808 := by have a := S'.le; have b := S'.cap; unfold maxLen at b; omega
  have H0 : Hid (Tab w ∧ Sl w ao n cn bn on F ∧ Sl w bo m cm bm om G) := ⟨hT, S, S'⟩
  clear hT S S'
  go_enter Tryd.func7, Tryd.ntmps7
  go_upto_region 1 with fail
  generalize (w.alloc (.cells #[.int .i64 s, .bool c, .slice ao n cn, .slice bo m cm, .int .i64 e] 24)) = wa at *
  obtain ⟨_, a0, a1, a2, a3, a4⟩ := X0.out
  go_cut [2] (fun u wx => wx = wa ∧ ∃ j : Nat, j < 100 ∧ u = .int .i64 (j : Int))
  case first =>
    obtain ⟨t, ht⟩ : ∃ t, nn.tmod 100 = t := ⟨_, rfl⟩
    have t1 : -100 < t ∧ t < 100 := by
      rw [← ht]
      by_cases h : 0 ≤ nn
      · rw [Int.tmod_eq_emod_of_nonneg h]; omega
      · rw [show nn = -(-nn) from by omega, Int.neg_tmod, Int.tmod_eq_emod_of_nonneg (by omega)]; omega
    obtain ⟨t1, t2⟩ := t1
    obtain ⟨j, hj⟩ : ∃ j : Nat, (t + 100).tmod 100 = (j : Int) := ⟨((t + 100) % 100).toNat, by rw [Int.tmod_eq_emod_of_nonneg (by omega)]; omega⟩
    have j1 : Hid (j < 100) := by
      show j < 100
      rw [Int.tmod_eq_emod_of_nonneg (by omega)] at hj
      omega
    go_wp2
    all_goals go_meet
    all_goals exact ⟨rfl, j, j1.out, rfl⟩
  case rest =>
  obtain ⟨hcw, j, hj, rfl⟩ := hcut
  subst wc
  go_upto_region 2 with fail
  go_cut [64] (fun u wx => wx = wa ∧ (u = .bool true ∨ (u = .bool false ∧ n ≤ 40 ∧ m ≤ 40 ∧ verr F n = 0 ∧ verr G m = 0 ∧ m ≠ 0 ∧ by' ≠ 0 ∧ -1073741824 ≤ e ∧ e ≤ 1073741824)))
  case first =>
    have T1 := V1 wa B0.out
    have T2 := V2 wa B0.out
    clear V1 V2
    by_cases c1 : 40 < n
    · have c1' : (40 : Int) < (n : Int) := by omega
      go_wp2_with fail
      go_meet
      exact ⟨rfl, .inl rfl⟩
    have c1' : ¬ (40 : Int) < (n : Int) := by omega
    by_cases c2 : 40 < m
    · have c2' : (40 : Int) < (m : Int) := by omega
      go_wp2_with fail
      go_meet
      exact ⟨rfl, .inl rfl⟩
    have c2' : ¬ (40 : Int) < (m : Int) := by omega
    by_cases c3 : verr F n = 0
    · rw [c3, show ((0 : Nat) : Int) = 0 from rfl] at T1
      by_cases c4 : verr G m = 0
      · rw [c4, show ((0 : Nat) : Int) = 0 from rfl] at T2
        have T12 : Hid (verr F n = 0 ∧ verr G m = 0) := ⟨c3, c4⟩
        clear c3 c4
        by_cases c5 : m = 0
        · have c5' : ((m : Int) == 0) = true := by simp [c5]
          clear c5
          go_wp2_with fail
          refine T1.mono ?_
          rintro x w1 ⟨rfl, rfl⟩
          go_wp2_with fail
          refine T2.mono ?_
          rintro x w2 ⟨rfl, rfl⟩
          go_wp2_with fail
          go_meet
          exact ⟨rfl, .inl rfl⟩
        have c5' : ((m : Int) == 0) = false := by simp; omega
        by_cases c6 : by' = 0
        · have c6' : ((by' : Int) == 0) = true := by simp [c6]
          clear c6
          go_wp2_with fail
          refine T1.mono ?_
          rintro x w1 ⟨rfl, rfl⟩
          go_wp2_with fail
          refine T2.mono ?_
          rintro x w2 ⟨rfl, rfl⟩
          go_wp2_with fail
          go_meet
          exact ⟨rfl, .inl rfl⟩
        have c6' : ((by' : Int) == 0) = false := by simp; omega
        by_cases c7 : (1073741824 : Int) < e
        · go_wp2_with fail
          refine T1.mono ?_
          rintro x w1 ⟨rfl, rfl⟩
          go_wp2_with fail
          refine T2.mono ?_
          rintro x w2 ⟨rfl, rfl⟩
          go_wp2_with fail
          go_meet
          exact ⟨rfl, .inl rfl⟩
        by_cases c8 : e < -1073741824
        · go_wp2_with fail
          refine T1.mono ?_
          rintro x w1 ⟨rfl, rfl⟩
          go_wp2_with fail
          refine T2.mono ?_
          rintro x w2 ⟨rfl, rfl⟩
          go_wp2_with fail
          go_meet
          exact ⟨rfl, .inl rfl⟩
        have HH : Hid (n ≤ 40 ∧ m ≤ 40 ∧ m ≠ 0 ∧ by' ≠ 0 ∧ -1073741824 ≤ e ∧ e ≤ 1073741824) := ⟨by omega, by omega, c5, c6, by omega, by omega⟩
        clear c5 c6 c1 c2
        go_wp2_with fail
        refine T1.mono ?_
        rintro x w1 ⟨rfl, rfl⟩
        go_wp2_with fail
        refine T2.mono ?_
        rintro x w2 ⟨rfl, rfl⟩
        go_wp2_with fail
        go_meet
        exact ⟨rfl, .inr ⟨congrArg Value.bool (by have := HH.out; rw [decide_eq_false (by omega), decide_eq_false (by omega)]; rfl), HH.out.1, HH.out.2.1, T12.out.1, T12.out.2, HH.out.2.2.1, HH.out.2.2.2.1, HH.out.2.2.2.2.1, HH.out.2.2.2.2.2⟩⟩
      · have c4' : (((verr G m : Nat) : Int) == 0) = false := by simp; exact c4
        have c4n : (((verr G m : Nat) : Int) != 0) = true := by simp; exact c4
        have c4m : ¬ (verr G m : Nat) = 0 := c4
        generalize verr G m = k at *
        clear c3 c4
        go_wp2_with fail
        refine T1.mono ?_
        rintro x w1 ⟨rfl, rfl⟩
        go_wp2_with fail
        refine T2.mono ?_
        rintro x w2 ⟨rfl, rfl⟩
        go_wp2_with fail
        go_meet
        exact ⟨rfl, .inl rfl⟩
    · have c3' : (((verr F n : Nat) : Int) == 0) = false := by simp; exact c3
      have c3n : (((verr F n : Nat) : Int) != 0) = true := by simp; exact c3
      have c3m : ¬ (verr F n : Nat) = 0 := c3
      generalize verr F n = k at *
      clear c3
      go_wp2_with fail
      refine T1.mono ?_
      rintro x w1 ⟨rfl, rfl⟩
      go_wp2_with fail
      go_meet
      exact ⟨rfl, .inl rfl⟩
  case rest =>
  obtain ⟨hcw, hc⟩ := hcut
  subst wc
  clear V1 V2
  rcases hc with rfl | ⟨rfl, n40, m40, h1, h2, m0, b0, e0, e1⟩
  · go_wp2_with fail
    refine (HW _ (H0.out.1.next B0.out)).mono ?_
    rintro x w1 ⟨rfl, b1⟩
    have B1 : Hid (Below w.heap.size w w1) := B0.out.trans (b1.mono B0.out.size)
    clear b1
    go_wp2
    go_ret
    exact ⟨rfl, B1.out⟩
  have TN := fun W hb => twin_nat H0.out.2.1 h1 W hb
  have TD := fun W hb => twin_nat H0.out.2.2 h2 W hb
  have xb : bl (V F n) ≤ 64 * 40 := bl_fit (Nat.lt_of_lt_of_le (V_lt H0.out.2.1.ws n) (Nat.pow_le_pow_right B_pos n40))
  have yb : bl (V G m) ≤ 64 * 40 := bl_fit (Nat.lt_of_lt_of_le (V_lt H0.out.2.2.ws m) (Nat.pow_le_pow_right B_pos m40))
  have y0 : V G m ≠ 0 := by
    obtain ⟨_, _, _, q, hq, _⟩ := nat_slice (natv_mk H0.out.2.2 h2)
    cases q
    exact fun z => m0 (hq.2 z)
  clear h1 h2 n40 m40 m0
  generalize V F n = X at *
  generalize V G m = Y at *
  obtain ⟨y, k, R1, R2, R3⟩ := same_rat s c X Y by' j e y0 b0 e0 e1 hj
  have HN := fun W => num_any k W
  generalize errV k = V at *
  have O1 := fun W => of_any by' hby W
  have bb : bl by' ≤ 64 := bl_mono_le hby
  have M1 : ∀ W u v, NatV W u X → NatV W v by' → Calls Tryd.prog 28 #[u, v] W fun e w' => ∃ v, e = .returned (.tuple #[v, .nilIface]) ∧ NatV w' v (X * by') ∧ Below W.heap.size W w' := fun W u v hu hv => mul_ok hu hv (mul_fit (by omega))
  have M2 : ∀ W u v, NatV W u Y → NatV W v by' → Calls Tryd.prog 28 #[u, v] W fun e w' => ∃ v, e = .returned (.tuple #[v, .nilIface]) ∧ NatV w' v (Y * by') ∧ Below W.heap.size W w' := fun W u v hu hv => mul_ok hu hv (mul_fit (by omega))
  have L1 : ∀ W u, NatV W u (X * by') → Calls Tryd.prog 22 #[u, .int .i64 (j : Int)] W fun e w' => ∃ v, e = .returned (.tuple #[v, .nilIface]) ∧ NatV w' v (X * by' * 2 ^ j) ∧ Below W.heap.size W w' := fun W u hu => shl_ok hu j (pow_fit (by have := bl_mul X by'; omega)) (by omega)
  clear xb yb bb y0
  generalize X * by' * 2 ^ j = P3 at *
  generalize X * by' = P1 at *
  generalize Y * by' = P2 at *
  go_upto_region 4 with fail
  go_cut [7, 8] (fun u v wx => u = .int .u64 y ∧ v = V ∧ Below w.heap.size w wx ∧ FvB wx w.heap.size (.int .i64 s) (.bool c) (.slice ao n cn) (.slice bo m cm) (.int .i64 e))
  case first =>
    go_region_held3 (fun w' => w'.cell? ⟨w.heap.size, 0, none⟩ = some (.int .i64 s) ∧ w'.cell? ⟨w.heap.size, 1, none⟩ = some (.bool c) ∧ w'.cell? ⟨w.heap.size, 2, none⟩ = some (.slice ao n cn) ∧ w'.cell? ⟨w.heap.size, 3, none⟩ = some (.slice bo m cm) ∧ w'.cell? ⟨w.heap.size, 4, none⟩ = some (.int .i64 e)) (simp [*, go_sem])
      (first
        | (go_at_call_of 9 (Value.slice ao n cn); refine (TN _ B0.out.drew).mono ?_; rintro x w1 ⟨v1, rfl, n1, hb⟩; have F1 : Hid (Below w.heap.size w w1 ∧ NatV w1 v1 X ∧ FvB w1 w.heap.size (.int .i64 s) (.bool c) (.slice ao n cn) (.slice bo m cm) (.int .i64 e)) := ⟨B0.out.drew.trans (hb.mono B0.out.drew.size), n1, (X0.out.step (Below.refl _ _).drew).step hb⟩; clear hb n1; obtain ⟨_, b0, b1, b2, b3, b4⟩ := F1.out.2.2)
        | (go_at_call_of 9 (Value.slice bo m cm); refine (TD _ F1.out.1).mono ?_; rintro x w2 ⟨v2, rfl, n2, hb⟩; have F2 : Hid (Below w.heap.size w w2 ∧ NatV w2 v1 X ∧ NatV w2 v2 Y ∧ FvB w2 w.heap.size (.int .i64 s) (.bool c) (.slice ao n cn) (.slice bo m cm) (.int .i64 e)) := ⟨F1.out.1.trans (hb.mono F1.out.1.size), F1.out.2.1.below hb, n2, F1.out.2.2.step hb⟩; clear hb n2; obtain ⟨_, d0, d1, d2, d3, d4⟩ := F2.out.2.2.2)
        | (go_at_call 10; refine (R1 _ _ _ (H0.out.1.next F2.out.1) F2.out.2.1 F2.out.2.2.1).mono ?_; rintro x w3 ⟨rfl, hb⟩; have F3 : Hid (Below w.heap.size w w3 ∧ FvB w3 w.heap.size (.int .i64 s) (.bool c) (.slice ao n cn) (.slice bo m cm) (.int .i64 e)) := ⟨F2.out.1.trans (hb.mono F2.out.1.size), F2.out.2.2.2.step hb⟩; clear hb; obtain ⟨_, g0, g1, g2, g3, g4⟩ := F3.out.2))
    all_goals go_wp2_with fail
    all_goals go_meet
    all_goals exact ⟨rfl, rfl, F3.out.1, F3.out.2⟩
  case rest =>
  clear a0 a1 a2 a3 a4 R1 B0 X0
  obtain ⟨rfl, rfl, bx, xx⟩ := hcut
  have F4 : Hid (Below w.heap.size w wc ∧ FvB wc w.heap.size (.int .i64 s) (.bool c) (.slice ao n cn) (.slice bo m cm) (.int .i64 e)) := ⟨bx, xx⟩
  clear bx xx
  obtain ⟨_, c0, c1, c2, c3, c4⟩ := F4.out.2
  go_wp2_with fail
  refine (TN _ (F4.out.1)).mono ?_
  rintro xe x0 ⟨va, rfl, hn, hb⟩
  have Q0 : Hid (Below w.heap.size w x0 ∧ FvB x0 w.heap.size (.int .i64 s) (.bool c) (.slice ao n cn) (.slice bo m cm) (.int .i64 e) ∧ NatV x0 va X) := ⟨F4.out.1.trans (hb.mono F4.out.1.size), F4.out.2.step hb, hn⟩
  clear hb hn c0 c1 c2 c3 c4 F4
  obtain ⟨_, c0, c1, c2, c3, c4⟩ := Q0.out.2.1
  go_wp2_with fail
  refine (O1 _).mono ?_
  rintro xe x1 ⟨vb, rfl, hn, hb⟩
  have Q1 : Hid (Below w.heap.size w x1 ∧ FvB x1 w.heap.size (.int .i64 s) (.bool c) (.slice ao n cn) (.slice bo m cm) (.int .i64 e) ∧ NatV x1 va X ∧ NatV x1 vb by') := ⟨Q0.out.1.trans (hb.mono Q0.out.1.size), Q0.out.2.1.step hb, Q0.out.2.2.below hb, hn⟩
  clear hb hn c0 c1 c2 c3 c4 Q0
  obtain ⟨_, c0, c1, c2, c3, c4⟩ := Q1.out.2.1
  go_wp2_with fail
  refine (M1 _ _ _ (Q1.out.2.2.1) (Q1.out.2.2.2)).mono ?_
  rintro xe x2 ⟨vp, rfl, hn, hb⟩
  have Q2 : Hid (Below w.heap.size w x2 ∧ FvB x2 w.heap.size (.int .i64 s) (.bool c) (.slice ao n cn) (.slice bo m cm) (.int .i64 e) ∧ NatV x2 va X ∧ NatV x2 vb by' ∧ NatV x2 vp P1) := ⟨Q1.out.1.trans (hb.mono Q1.out.1.size), Q1.out.2.1.step hb, Q1.out.2.2.1.below hb, Q1.out.2.2.2.below hb, hn⟩
  clear hb hn c0 c1 c2 c3 c4 Q1
  obtain ⟨_, c0, c1, c2, c3, c4⟩ := Q2.out.2.1
  go_wp2_with fail
  refine (TD _ (Q2.out.1)).mono ?_
  rintro xe x3 ⟨vc, rfl, hn, hb⟩
  have Q3 : Hid (Below w.heap.size w x3 ∧ FvB x3 w.heap.size (.int .i64 s) (.bool c) (.slice ao n cn) (.slice bo m cm) (.int .i64 e) ∧ NatV x3 va X ∧ NatV x3 vb by' ∧ NatV x3 vp P1 ∧ NatV x3 vc Y) := ⟨Q2.out.1.trans (hb.mono Q2.out.1.size), Q2.out.2.1.step hb, Q2.out.2.2.1.below hb, Q2.out.2.2.2.1.below hb, Q2.out.2.2.2.2.below hb, hn⟩
  clear hb hn c0 c1 c2 c3 c4 Q2
  obtain ⟨_, c0, c1, c2, c3, c4⟩ := Q3.out.2.1
  go_wp2_with fail
  refine (O1 _).mono ?_
  rintro xe x4 ⟨vd, rfl, hn, hb⟩
  have Q4 : Hid (Below w.heap.size w x4 ∧ FvB x4 w.heap.size (.int .i64 s) (.bool c) (.slice ao n cn) (.slice bo m cm) (.int .i64 e) ∧ NatV x4 va X ∧ NatV x4 vb by' ∧ NatV x4 vp P1 ∧ NatV x4 vc Y ∧ NatV x4 vd by') := ⟨Q3.out.1.trans (hb.mono Q3.out.1.size), Q3.out.2.1.step hb, Q3.out.2.2.1.below hb, Q3.out.2.2.2.1.below hb, Q3.out.2.2.2.2.1.below hb, Q3.out.2.2.2.2.2.below hb, hn⟩
  clear hb hn c0 c1 c2 c3 c4 Q3
  obtain ⟨_, c0, c1, c2, c3, c4⟩ := Q4.out.2.1
  go_wp2_with fail
  refine (M2 _ _ _ (Q4.out.2.2.2.2.2.1) (Q4.out.2.2.2.2.2.2)).mono ?_
  rintro xe x5 ⟨vq, rfl, hn, hb⟩
  have Q5 : Hid (Below w.heap.size w x5 ∧ FvB x5 w.heap.size (.int .i64 s) (.bool c) (.slice ao n cn) (.slice bo m cm) (.int .i64 e) ∧ NatV x5 va X ∧ NatV x5 vb by' ∧ NatV x5 vp P1 ∧ NatV x5 vc Y ∧ NatV x5 vd by' ∧ NatV x5 vq P2) := ⟨Q4.out.1.trans (hb.mono Q4.out.1.size), Q4.out.2.1.step hb, Q4.out.2.2.1.below hb, Q4.out.2.2.2.1.below hb, Q4.out.2.2.2.2.1.below hb, Q4.out.2.2.2.2.2.1.below hb, Q4.out.2.2.2.2.2.2.below hb, hn⟩
  clear hb hn c0 c1 c2 c3 c4 Q4
  obtain ⟨_, c0, c1, c2, c3, c4⟩ := Q5.out.2.1
  go_wp2_with fail
  refine (L1 _ _ (Q5.out.2.2.2.2.1)).mono ?_
  rintro xe x6 ⟨vu, rfl, hn, hb⟩
  have Q6 : Hid (Below w.heap.size w x6 ∧ FvB x6 w.heap.size (.int .i64 s) (.bool c) (.slice ao n cn) (.slice bo m cm) (.int .i64 e) ∧ NatV x6 va X ∧ NatV x6 vb by' ∧ NatV x6 vp P1 ∧ NatV x6 vc Y ∧ NatV x6 vd by' ∧ NatV x6 vq P2 ∧ NatV x6 vu P3) := ⟨Q5.out.1.trans (hb.mono Q5.out.1.size), Q5.out.2.1.step hb, Q5.out.2.2.1.below hb, Q5.out.2.2.2.1.below hb, Q5.out.2.2.2.2.1.below hb, Q5.out.2.2.2.2.2.1.below hb, Q5.out.2.2.2.2.2.2.1.below hb, Q5.out.2.2.2.2.2.2.2.below hb, hn⟩
  clear hb hn c0 c1 c2 c3 c4 Q5
  obtain ⟨_, c0, c1, c2, c3, c4⟩ := Q6.out.2.1
  go_wp2_with fail
  refine (R2 _ _ _ (H0.out.1.next (Q6.out.1)) (Q6.out.2.2.2.2.1) (Q6.out.2.2.2.2.2.2.2.1)).mono ?_
  rintro xe x7 ⟨rfl, hb⟩
  have Q7 : Hid (Below w.heap.size w x7 ∧ FvB x7 w.heap.size (.int .i64 s) (.bool c) (.slice ao n cn) (.slice bo m cm) (.int .i64 e) ∧ NatV x7 va X ∧ NatV x7 vb by' ∧ NatV x7 vp P1 ∧ NatV x7 vc Y ∧ NatV x7 vd by' ∧ NatV x7 vq P2 ∧ NatV x7 vu P3) := ⟨Q6.out.1.trans (hb.mono Q6.out.1.size), Q6.out.2.1.step hb, Q6.out.2.2.1.below hb, Q6.out.2.2.2.1.below hb, Q6.out.2.2.2.2.1.below hb, Q6.out.2.2.2.2.2.1.below hb, Q6.out.2.2.2.2.2.2.1.below hb, Q6.out.2.2.2.2.2.2.2.1.below hb, Q6.out.2.2.2.2.2.2.2.2.below hb⟩
  clear hb c0 c1 c2 c3 c4 Q6
  obtain ⟨_, c0, c1, c2, c3, c4⟩ := Q7.out.2.1
  go_wp2_with fail
  refine (R3 _ _ _ (H0.out.1.next (Q7.out.1)) (Q7.out.2.2.2.2.2.2.2.2) (Q7.out.2.2.2.2.2.2.2.1)).mono ?_
  rintro xe x8 ⟨rfl, hb⟩
  have Q8 : Hid (Below w.heap.size w x8 ∧ FvB x8 w.heap.size (.int .i64 s) (.bool c) (.slice ao n cn) (.slice bo m cm) (.int .i64 e) ∧ NatV x8 va X ∧ NatV x8 vb by' ∧ NatV x8 vp P1 ∧ NatV x8 vc Y ∧ NatV x8 vd by' ∧ NatV x8 vq P2 ∧ NatV x8 vu P3) := ⟨Q7.out.1.trans (hb.mono Q7.out.1.size), Q7.out.2.1.step hb, Q7.out.2.2.1.below hb, Q7.out.2.2.2.1.below hb, Q7.out.2.2.2.2.1.below hb, Q7.out.2.2.2.2.2.1.below hb, Q7.out.2.2.2.2.2.2.1.below hb, Q7.out.2.2.2.2.2.2.2.1.below hb, Q7.out.2.2.2.2.2.2.2.2.below hb⟩
  clear hb c0 c1 c2 c3 c4 Q7
  obtain ⟨_, c0, c1, c2, c3, c4⟩ := Q8.out.2.1
  go_wp2_with fail
  refine (HN _).mono ?_
  rintro xe xw ⟨rfl, hx⟩
  subst hx
  clear c0 c1 c2 c3 c4
  obtain ⟨_, c0, c1, c2, c3, c4⟩ := Q8.out.2.1
  go_wp2_with fail
  refine (HN _).mono ?_
  rintro xe xw ⟨rfl, hx⟩
  subst hx
  clear c0 c1 c2 c3 c4
  obtain ⟨_, c0, c1, c2, c3, c4⟩ := Q8.out.2.1
  go_wp2_with fail
  refine (HN _).mono ?_
  rintro xe xw ⟨rfl, hx⟩
  subst hx
  clear c0 c1 c2 c3 c4
  obtain ⟨_, c0, c1, c2, c3, c4⟩ := Q8.out.2.1
  go_wp2_with fail
  refine (HN _).mono ?_
  rintro xe xw ⟨rfl, hx⟩
  subst hx
  clear c0 c1 c2 c3 c4
  obtain ⟨_, c0, c1, c2, c3, c4⟩ := Q8.out.2.1
  go_wp2_with fail
  refine (HW _ (H0.out.1.next (Q8.out.1))).mono ?_
  rintro xe x9 ⟨rfl, hb⟩
  have Q9 : Hid (Below w.heap.size w x9 ∧ FvB x9 w.heap.size (.int .i64 s) (.bool c) (.slice ao n cn) (.slice bo m cm) (.int .i64 e) ∧ NatV x9 va X ∧ NatV x9 vb by' ∧ NatV x9 vp P1 ∧ NatV x9 vc Y ∧ NatV x9 vd by' ∧ NatV x9 vq P2 ∧ NatV x9 vu P3) := ⟨Q8.out.1.trans (hb.mono Q8.out.1.size), Q8.out.2.1.step hb, Q8.out.2.2.1.below hb, Q8.out.2.2.2.1.below hb, Q8.out.2.2.2.2.1.below hb, Q8.out.2.2.2.2.2.1.below hb, Q8.out.2.2.2.2.2.2.1.below hb, Q8.out.2.2.2.2.2.2.2.1.below hb, Q8.out.2.2.2.2.2.2.2.2.below hb⟩
  clear hb c0 c1 c2 c3 c4 Q8
  go_wp2
  all_goals go_ret
  all_goals exact ⟨rfl, Q9.out.1⟩
end Go.Proofs.YtealnajogkeckaaDoor
