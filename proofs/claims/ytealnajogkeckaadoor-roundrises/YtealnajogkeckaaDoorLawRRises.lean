/-
  The law RoundRises: a greater number is never rounded to a lesser float; a sign changes the sign's bit alone.
-/
import Derived.Test.YtealnajogkeckaaDoorRnL
import Derived.Test.YtealnajogkeckaaDoorLawRSame
import Derived.Deep.DeepCutAuto
namespace Go.Proofs.YtealnajogkeckaaDoor
open Go.RowKit

theorem add_fit {a b : Nat} (h1 : bl a ≤ 64 * 40) (h2 : bl b ≤ 64 * 40) : a + b < B ^ 128 := by
  have q := pow_fit (X := max a b) (s := 1) (K := 128) (by
    have : bl (max a b) ≤ 64 * 40 := by
      rcases Nat.le_total a b with c | c
      · rw [Nat.max_eq_right c]; exact h2
      · rw [Nat.max_eq_left c]; exact h1
    omega)
  rw [Nat.pow_one] at q
  generalize B ^ 128 = z at *
  omega
theorem rise_rat {s : Int} {g n' f T : Nat} {L : Int} (hz : Fz s g n' f T L) (X Y Mq : Nat) (e : Int) (y0 : Y ≠ 0) (e0 : -1073741824 ≤ e) (e1 : e ≤ 1073741824) : ∃ (A D kf kg : Nat) (β : Bool), (∀ W vn vd, Tab W → NatV W vn (X) → NatV W vd (Y) → Calls Tryd.prog 10 #[.int .i64 s, .bool false, vn, vd, .int .i64 e] W fun x w' => x = .returned (.tuple #[.int .u64 (A : Int), errV kf]) ∧ Below W.heap.size W w') ∧ (∀ W vn vd, Tab W → NatV W vn (X + Mq) → NatV W vd (Y) → Calls Tryd.prog 10 #[.int .i64 s, .bool false, vn, vd, .int .i64 e] W fun x w' => x = .returned (.tuple #[.int .u64 (D : Int), errV kg]) ∧ Below W.heap.size W w') ∧ (∀ W vn vd, Tab W → NatV W vn (X) → NatV W vd (Y) → Calls Tryd.prog 10 #[.int .i64 s, .bool true, vn, vd, .int .i64 e] W fun x w' => x = .returned (.tuple #[.int .u64 ((sgd g true A : Nat) : Int), errV kf]) ∧ Below W.heap.size W w') ∧ (∀ W, Calls Tryd.prog 30 #[.bool true, .int .u64 (A : Int), .int .i64 s] W fun e w' => e = .returned (.int .u64 ((sgd g true A : Nat) : Int)) ∧ w' = W) ∧ A ≤ D ∧ D ≤ T * 2 ^ f ∧ ((kf : Int) == 4) = β ∧ ((A : Int) == ((T * 2 ^ f : Nat) : Int)) = β ∧ (kg = 0 ∨ kg = 4) := by
  have hf : 0 < f ∧ 0 < T := by rcases hz with ⟨_, _, _, h, h', _⟩ | ⟨_, _, _, h, h', _⟩ <;> omega
  have en1 := rdA_end (f := f) (T := T) (L := L) (n := X) (d := Y) (e := e) (more := false) hf.2
  have en2 := rdA_end (f := f) (T := T) (L := L) (n := X + Mq) (d := Y) (e := e) (more := false) hf.2
  have mo := rdA_mono (f := f) (T := T) (L := L) (n := X) (n' := X + Mq) (d := Y) (e := e) (more := false) hf.1 y0 (Nat.le_add_right _ _)
  refine ⟨(rdA f T L X Y e false).1, (rdA f T L (X + Mq) Y e false).1, if (rdA f T L X Y e false).2 then 4 else 0, if (rdA f T L (X + Mq) Y e false).2 then 4 else 0, (rdA f T L X Y e false).2, fun W vn vd hW h1 h2 => ?_, fun W vn vd hW h1 h2 => ?_, fun W vn vd hW h1 h2 => ?_, fun W => rsigned_z hz en1.1 true W, mo, en2.1, ?_, ?_, ?_⟩
  · have q := ratio_ok (e := e) hz false (by omega) (by omega) hW h1 h2 y0
    rw [anV_err] at q
    exact q
  · have q := ratio_ok (e := e) hz false (by omega) (by omega) hW h1 h2 y0
    rw [anV_err] at q
    exact q
  · have q := ratio_ok (e := e) hz true (by omega) (by omega) hW h1 h2 y0
    rw [anV_err] at q
    exact q
  · cases (rdA f T L X Y e false).2 <;> rfl
  · have k := en1.2
    cases h : (rdA f T L X Y e false).2
    · rw [h] at k
      simp only [beq_eq_false_iff_ne, ne_eq, Int.natCast_inj]
      exact fun z => by have := k.2 z; cases this
    · rw [h] at k
      rw [k.1 rfl]
      simp
  · cases (rdA f T L (X + Mq) Y e false).2
    · exact .inl rfl
    · exact .inr rfl
set_option maxRecDepth 100000 in
set_option maxHeartbeats 4000000 in
theorem law_rrises {w : World} (hT : Tab w) (s : Int) (c : Bool) {ao : Option Addr} {n cn bn on : Nat} {F : Nat → Nat} (S : Sl w ao n cn bn on F) {bo : Option Addr} {m cm bm om : Nat} {G : Nat → Nat} (S' : Sl w bo m cm bm om G) (e : Int) {mo : Option Addr} {q cq bq oq : Nat} {K : Nat → Nat} (S2 : Sl w mo q cq bq oq K) : Calls Tryd.prog 8 #[.agg #[.int .i64 s, .bool c, .slice ao n cn, .slice bo m cm, .int .i64 e], .slice mo q cq] w fun x w' => x = .returned (.bool true) ∧ Below w.heap.size w w' := by
  have V1 := fun W (hb : Below w.heap.size w W) => rvalid_any (S.below hb)
  have V2 := fun W (hb : Below w.heap.size w W) => rvalid_any (S'.below hb)
  have V3 := fun W (hb : Below w.heap.size w W) => rvalid_any (S2.below hb)
  have HW := fun W hW => works_any W hW
  have B0 : Hid (Below w.heap.size w (w.alloc (.cells #[.int .i64 s, .bool c, .slice ao n cn, .slice bo m cm, .int .i64 e] 24))) := (Below.refl _ _).alloc (Nat.le_refl _) _
  have X0 : Hid (FvB (w.alloc (.cells #[.int .i64 s, .bool c, .slice ao n cn, .slice bo m cm, .int .i64 e] 24)) w.heap.size (.int .i64 s) (.bool c) (.slice ao n cn) (.slice bo m cm) (.int .i64 e)) := FvB.new w _ _ _ _ _ _
  have nl : n < 9223372036854775808 := by have a := S.le; have b := S.cap; unfold maxLen at b; omega
  have ml : m < 9223372036854775808 := by have a := S'.le; have b := S'.cap; unfold maxLen at b; omega
  have ql : q < 9223372036854775808 := by have a := S2.le; have b := S2.cap; unfold maxLen at b; omega
  have H0 : Hid (Tab w ∧ Sl w ao n cn bn on F ∧ Sl w bo m cm bm om G ∧ Sl w mo q cq bq oq K) := ⟨hT, S, S', S2⟩
  clear hT S S' S2
  go_enter Tryd.func8, Tryd.ntmps8
  go_upto_region 1 with fail
  generalize (w.alloc (.cells #[.int .i64 s, .bool c, .slice ao n cn, .slice bo m cm, .int .i64 e] 24)) = wa at *
  obtain ⟨_, a0, a1, a2, a3, a4⟩ := X0.out
  go_cut [66] (fun u wx => wx = wa ∧ (u = .bool true ∨ (u = .bool false ∧ n ≤ 40 ∧ m ≤ 40 ∧ q ≤ 40 ∧ verr F n = 0 ∧ verr G m = 0 ∧ verr K q = 0 ∧ m ≠ 0 ∧ (∃ g n' f T L, Fz s g n' f T L) ∧ -1073741824 ≤ e ∧ e ≤ 1073741824)))
  case first =>
    have T1 := V1 wa B0.out
    have T2 := V2 wa B0.out
    have T3 := V3 wa B0.out
    clear V1 V2 V3
    by_cases c1 : 40 < n
    · have c1' : (40 : Int) < (n : Int) := by omega
      go_wp2_with fail
      go_meet
      exact ⟨rfl, .inl rfl⟩
    have c1' : ¬ (40 : Int) < (n : Int) := by omega
    by_cases c2 : 40 < m
    · have c2' : (40 : Int) < (m : Int) := by omega
      go_wp2_with fail
      go_meet
      exact ⟨rfl, .inl rfl⟩
    have c2' : ¬ (40 : Int) < (m : Int) := by omega
    by_cases c3 : 40 < q
    · have c3' : (40 : Int) < (q : Int) := by omega
      go_wp2_with fail
      go_meet
      exact ⟨rfl, .inl rfl⟩
    have c3' : ¬ (40 : Int) < (q : Int) := by omega
    have HH : Hid (n ≤ 40 ∧ m ≤ 40 ∧ q ≤ 40) := ⟨by omega, by omega, by omega⟩
    clear c1 c2 c3
    by_cases z : verr F n ≠ 0
    · clear T2 T3
      have z' : (((verr F n : Nat) : Int) == 0) = false := by simp; exact z
      have zn : (((verr F n : Nat) : Int) != 0) = true := by simp; exact z
      have zm : ¬ (verr F n : Nat) = 0 := z
      generalize verr F n = k at *
      clear z
      go_wp2_with fail
      refine T1.mono ?_
      rintro x w1 ⟨rfl, hx⟩
      subst hx
      go_wp2_with fail
      go_meet
      exact ⟨rfl, .inl rfl⟩
    have z := Decidable.not_not.1 z
    have Z1 : Hid _ := z
    rw [z, show ((0 : Nat) : Int) = 0 from rfl] at T1
    clear z
    by_cases z : verr G m ≠ 0
    · clear T3
      have z' : (((verr G m : Nat) : Int) == 0) = false := by simp; exact z
      have zn : (((verr G m : Nat) : Int) != 0) = true := by simp; exact z
      have zm : ¬ (verr G m : Nat) = 0 := z
      generalize verr G m = k at *
      clear z
      go_wp2_with fail
      refine T1.mono ?_
      rintro x w1 ⟨rfl, hx⟩
      subst hx
      go_wp2_with fail
      refine T2.mono ?_
      rintro x w2 ⟨rfl, hx⟩
      subst hx
      go_wp2_with fail
      go_meet
      exact ⟨rfl, .inl rfl⟩
    have z := Decidable.not_not.1 z
    have Z2 : Hid _ := z
    rw [z, show ((0 : Nat) : Int) = 0 from rfl] at T2
    clear z
    by_cases z : verr K q ≠ 0
    · skip
      have z' : (((verr K q : Nat) : Int) == 0) = false := by simp; exact z
      have zn : (((verr K q : Nat) : Int) != 0) = true := by simp; exact z
      have zm : ¬ (verr K q : Nat) = 0 := z
      generalize verr K q = k at *
      clear z
      go_wp2_with fail
      refine T1.mono ?_
      rintro x w1 ⟨rfl, hx⟩
      subst hx
      go_wp2_with fail
      refine T2.mono ?_
      rintro x w2 ⟨rfl, hx⟩
      subst hx
      go_wp2_with fail
      refine T3.mono ?_
      rintro x w3 ⟨rfl, hx⟩
      subst hx
      go_wp2_with fail
      go_meet
      exact ⟨rfl, .inl rfl⟩
    have z := Decidable.not_not.1 z
    have Z3 : Hid _ := z
    rw [z, show ((0 : Nat) : Int) = 0 from rfl] at T3
    clear z
    by_cases c5 : m = 0
    · have c5' : ((m : Int) == 0) = true := by simp [c5]
      clear c5
      go_wp2_with fail
      refine T1.mono ?_
      rintro x w1 ⟨rfl, hx⟩
      subst hx
      go_wp2_with fail
      refine T2.mono ?_
      rintro x w2 ⟨rfl, hx⟩
      subst hx
      go_wp2_with fail
      refine T3.mono ?_
      rintro x w3 ⟨rfl, hx⟩
      subst hx
      go_wp2_with fail
      go_meet
      exact ⟨rfl, .inl rfl⟩
    have c5' : ((m : Int) == 0) = false := by simp; omega
    rcases fz_of s with hs | hz
    · have TS := rsize_no hs wa
      go_wp2_with fail
      refine T1.mono ?_
      rintro x w1 ⟨rfl, hx⟩
      subst hx
      go_wp2_with fail
      refine T2.mono ?_
      rintro x w2 ⟨rfl, hx⟩
      subst hx
      go_wp2_with fail
      refine T3.mono ?_
      rintro x w3 ⟨rfl, hx⟩
      subst hx
      go_wp2_with fail
      refine TS.mono ?_
      rintro x w4 ⟨rfl, hx⟩
      subst hx
      go_wp2_with fail
      go_meet
      exact ⟨rfl, .inl rfl⟩
    have HZ : Hid (m ≠ 0 ∧ ∃ g n' f T L, Fz s g n' f T L) := ⟨c5, hz⟩
    obtain ⟨g, n', f, T, L, hz⟩ := hz
    have TS := rsize_z hz wa
    clear hz c5
    by_cases c7 : (1073741824 : Int) < e
    · skip
      go_wp2_with fail
      refine T1.mono ?_
      rintro x w1 ⟨rfl, hx⟩
      subst hx
      go_wp2_with fail
      refine T2.mono ?_
      rintro x w2 ⟨rfl, hx⟩
      subst hx
      go_wp2_with fail
      refine T3.mono ?_
      rintro x w3 ⟨rfl, hx⟩
      subst hx
      go_wp2_with fail
      refine TS.mono ?_
      rintro x w4 ⟨rfl, hx⟩
      subst hx
      go_wp2_with fail
      go_meet
      exact ⟨rfl, .inl rfl⟩
    by_cases c8 : e < -1073741824
    · skip
      go_wp2_with fail
      refine T1.mono ?_
      rintro x w1 ⟨rfl, hx⟩
      subst hx
      go_wp2_with fail
      refine T2.mono ?_
      rintro x w2 ⟨rfl, hx⟩
      subst hx
      go_wp2_with fail
      refine T3.mono ?_
      rintro x w3 ⟨rfl, hx⟩
      subst hx
      go_wp2_with fail
      refine TS.mono ?_
      rintro x w4 ⟨rfl, hx⟩
      subst hx
      go_wp2_with fail
      go_meet
      exact ⟨rfl, .inl rfl⟩
    have HE : Hid (-1073741824 ≤ e ∧ e ≤ 1073741824) := ⟨by omega, by omega⟩
    go_wp2_with fail
    refine T1.mono ?_
    rintro x w1 ⟨rfl, hx⟩
    subst hx
    go_wp2_with fail
    refine T2.mono ?_
    rintro x w2 ⟨rfl, hx⟩
    subst hx
    go_wp2_with fail
    refine T3.mono ?_
    rintro x w3 ⟨rfl, hx⟩
    subst hx
    go_wp2_with fail
    refine TS.mono ?_
    rintro x w4 ⟨rfl, hx⟩
    subst hx
    go_wp2_with fail
    go_meet
    exact ⟨rfl, .inr ⟨congrArg Value.bool (by have := HE.out; rw [decide_eq_false (by omega), decide_eq_false (by omega)]; rfl), HH.out.1, HH.out.2.1, HH.out.2.2, Z1.out, Z2.out, Z3.out, HZ.out.1, HZ.out.2, HE.out.1, HE.out.2⟩⟩
  case rest =>
  obtain ⟨hcw, hc⟩ := hcut
  subst wc
  clear V1 V2 V3
  rcases hc with rfl | ⟨rfl, n40, m40, q40, h1, h2, h3, m0, ⟨g, n', f, T, L, hz⟩, e0, e1⟩
  · go_wp2_with fail
    refine (HW _ (H0.out.1.next B0.out)).mono ?_
    rintro x w1 ⟨rfl, b1⟩
    have B1 : Hid (Below w.heap.size w w1) := B0.out.trans (b1.mono B0.out.size)
    clear b1
    go_wp2
    go_ret
    exact ⟨rfl, B1.out⟩
  have TN := fun W hb => twin_nat H0.out.2.1 h1 W hb
  have TD := fun W hb => twin_nat H0.out.2.2.1 h2 W hb
  have TM := fun W hb => twin_nat H0.out.2.2.2 h3 W hb
  have xb : bl (V F n) ≤ 64 * 40 := bl_fit (Nat.lt_of_lt_of_le (V_lt H0.out.2.1.ws n) (Nat.pow_le_pow_right B_pos n40))
  have mb : bl (V K q) ≤ 64 * 40 := bl_fit (Nat.lt_of_lt_of_le (V_lt H0.out.2.2.2.ws q) (Nat.pow_le_pow_right B_pos q40))
  have y0 : V G m ≠ 0 := by
    obtain ⟨_, _, _, q, hq, _⟩ := nat_slice (natv_mk H0.out.2.2.1 h2)
    cases q
    exact fun z => m0 (hq.2 z)
  clear h1 h2 h3 n40 m40 q40 m0
  generalize V F n = X at *
  generalize V G m = Y at *
  generalize V K q = Mq at *
  have A1 : ∀ W u v, NatV W u X → NatV W v Mq → Calls Tryd.prog 23 #[u, v] W fun e w' => ∃ v, e = .returned (.tuple #[v, .nilIface]) ∧ NatV w' v (X + Mq) ∧ Below W.heap.size W w' := fun W u v hu hv => add_ok hu hv (add_fit (by omega) (by omega))
  have TI := fun W => rinf_z hz W
  obtain ⟨A, D, kf, kg, β, R1, R2, R3, SG, le1, le2, q1, q2, hkg⟩ := rise_rat hz X Y Mq e y0 e0 e1
  generalize T * 2 ^ f = I at *
  generalize sgd g true A = Z at *
  have N1 := fun W => num_any kf W
  have N2 := fun W => num_any kg W
  clear xb mb y0 hz e0 e1
  generalize X + Mq = P1 at *
  generalize errV kf = V1 at *
  have F0 : Hid (Below w.heap.size w wa ∧ FvB wa w.heap.size (.int .i64 s) (.bool c) (.slice ao n cn) (.slice bo m cm) (.int .i64 e)) := ⟨B0.out, X0.out⟩
  clear B0 X0 a0 a1 a2 a3 a4
  obtain ⟨_, c0, c1, c2, c3, c4⟩ := F0.out.2
  go_wp2_with fail
  refine (TN _ (F0.out.1)).mono ?_
  rintro xe x0 ⟨va, rfl, hn, hb⟩
  have Q0 : Hid (Below w.heap.size w x0 ∧ FvB x0 w.heap.size (.int .i64 s) (.bool c) (.slice ao n cn) (.slice bo m cm) (.int .i64 e) ∧ NatV x0 va X) := ⟨F0.out.1.trans (hb.mono F0.out.1.size), F0.out.2.step hb, hn⟩
  clear hb hn c0 c1 c2 c3 c4 F0
  obtain ⟨_, c0, c1, c2, c3, c4⟩ := Q0.out.2.1
  go_wp2_with fail
  refine (TM _ (Q0.out.1)).mono ?_
  rintro xe x1 ⟨vb, rfl, hn, hb⟩
  have Q1 : Hid (Below w.heap.size w x1 ∧ FvB x1 w.heap.size (.int .i64 s) (.bool c) (.slice ao n cn) (.slice bo m cm) (.int .i64 e) ∧ NatV x1 va X ∧ NatV x1 vb Mq) := ⟨Q0.out.1.trans (hb.mono Q0.out.1.size), Q0.out.2.1.step hb, Q0.out.2.2.below hb, hn⟩
  clear hb hn c0 c1 c2 c3 c4 Q0
  obtain ⟨_, c0, c1, c2, c3, c4⟩ := Q1.out.2.1
  go_wp2_with fail
  refine (A1 _ _ _ (Q1.out.2.2.1) (Q1.out.2.2.2)).mono ?_
  rintro xe x2 ⟨vs, rfl, hn, hb⟩
  have Q2 : Hid (Below w.heap.size w x2 ∧ FvB x2 w.heap.size (.int .i64 s) (.bool c) (.slice ao n cn) (.slice bo m cm) (.int .i64 e) ∧ NatV x2 va X ∧ NatV x2 vb Mq ∧ NatV x2 vs P1) := ⟨Q1.out.1.trans (hb.mono Q1.out.1.size), Q1.out.2.1.step hb, Q1.out.2.2.1.below hb, Q1.out.2.2.2.below hb, hn⟩
  clear hb hn c0 c1 c2 c3 c4 Q1
  have G0 : Hid (Below w.heap.size w x2 ∧ FvB x2 w.heap.size (.int .i64 s) (.bool c) (.slice ao n cn) (.slice bo m cm) (.int .i64 e) ∧ NatV x2 vs P1) := ⟨Q2.out.1, Q2.out.2.1, Q2.out.2.2.2.2⟩
  clear Q2
  obtain ⟨_, a0, a1, a2, a3, a4⟩ := G0.out.2.1
  go_upto_region 4 with fail
  go_cut [7, 8] (fun u v wx => u = .int .u64 (A : Int) ∧ v = V1 ∧ Below w.heap.size w wx ∧ FvB wx w.heap.size (.int .i64 s) (.bool c) (.slice ao n cn) (.slice bo m cm) (.int .i64 e) ∧ NatV wx vs P1)
  case first =>
    go_region_held3 (fun w' => w'.cell? ⟨w.heap.size, 0, none⟩ = some (.int .i64 s) ∧ w'.cell? ⟨w.heap.size, 1, none⟩ = some (.bool c) ∧ w'.cell? ⟨w.heap.size, 2, none⟩ = some (.slice ao n cn) ∧ w'.cell? ⟨w.heap.size, 3, none⟩ = some (.slice bo m cm) ∧ w'.cell? ⟨w.heap.size, 4, none⟩ = some (.int .i64 e)) (simp [*, go_sem])
      (first
        | (go_at_call_of 9 (Value.slice ao n cn); refine (TN _ G0.out.1.drew).mono ?_; rintro xe y1 ⟨u1, rfl, hn, hb⟩; have K1 : Hid (Below w.heap.size w y1 ∧ FvB y1 w.heap.size (.int .i64 s) (.bool c) (.slice ao n cn) (.slice bo m cm) (.int .i64 e) ∧ NatV y1 vs P1 ∧ NatV y1 u1 X) := ⟨G0.out.1.drew.trans (hb.mono G0.out.1.drew.size), (G0.out.2.1.step (Below.refl _ _).drew).step hb, (G0.out.2.2.below (Below.refl _ _).drew).below hb, hn⟩; clear hb hn; obtain ⟨_, b10, b11, b12, b13, b14⟩ := K1.out.2.1)
        | (go_at_call_of 9 (Value.slice bo m cm); refine (TD _ K1.out.1).mono ?_; rintro xe y2 ⟨u2, rfl, hn, hb⟩; have K2 : Hid (Below w.heap.size w y2 ∧ FvB y2 w.heap.size (.int .i64 s) (.bool c) (.slice ao n cn) (.slice bo m cm) (.int .i64 e) ∧ NatV y2 vs P1 ∧ NatV y2 u1 X ∧ NatV y2 u2 Y) := ⟨K1.out.1.trans (hb.mono K1.out.1.size), K1.out.2.1.step hb, K1.out.2.2.1.below hb, K1.out.2.2.2.below hb, hn⟩; clear hb hn; obtain ⟨_, b20, b21, b22, b23, b24⟩ := K2.out.2.1)
        | (go_at_call 10; refine (R1 _ _ _ (H0.out.1.next K2.out.1) K2.out.2.2.2.1 K2.out.2.2.2.2).mono ?_; rintro xe y3 ⟨rfl, hb⟩; have K3 : Hid (Below w.heap.size w y3 ∧ FvB y3 w.heap.size (.int .i64 s) (.bool c) (.slice ao n cn) (.slice bo m cm) (.int .i64 e) ∧ NatV y3 vs P1 ∧ NatV y3 u1 X ∧ NatV y3 u2 Y) := ⟨K2.out.1.trans (hb.mono K2.out.1.size), K2.out.2.1.step hb, K2.out.2.2.1.below hb, K2.out.2.2.2.1.below hb, K2.out.2.2.2.2.below hb⟩; clear hb; obtain ⟨_, b30, b31, b32, b33, b34⟩ := K3.out.2.1))
    all_goals go_wp2_with fail
    all_goals go_meet
    all_goals exact ⟨rfl, rfl, K3.out.1, K3.out.2.1, K3.out.2.2.1⟩
  case rest =>
  clear G0 R1 a0 a1 a2 a3 a4
  obtain ⟨hu, hv, bx, xx, nx⟩ := hcut
  subst hu
  subst u8
  have G1 : Hid (Below w.heap.size w wc ∧ FvB wc w.heap.size (.int .i64 s) (.bool c) (.slice ao n cn) (.slice bo m cm) (.int .i64 e) ∧ NatV wc vs P1) := ⟨bx, xx, nx⟩
  clear bx xx nx
  obtain ⟨_, a0, a1, a2, a3, a4⟩ := G1.out.2.1
  go_upto_region 5 with fail
  go_cut [9, 10] (fun u v wx => u = .int .u64 (D : Int) ∧ v = errV kg ∧ Below w.heap.size w wx ∧ FvB wx w.heap.size (.int .i64 s) (.bool c) (.slice ao n cn) (.slice bo m cm) (.int .i64 e) ∧ NatV wx vs P1)
  case first =>
    go_region_held3 (fun w' => w'.cell? ⟨w.heap.size, 0, none⟩ = some (.int .i64 s) ∧ w'.cell? ⟨w.heap.size, 1, none⟩ = some (.bool c) ∧ w'.cell? ⟨w.heap.size, 2, none⟩ = some (.slice ao n cn) ∧ w'.cell? ⟨w.heap.size, 3, none⟩ = some (.slice bo m cm) ∧ w'.cell? ⟨w.heap.size, 4, none⟩ = some (.int .i64 e)) (simp [*, go_sem])
      (first
        | (go_at_call_of 9 (Value.slice bo m cm); refine (TD _ G1.out.1.drew).mono ?_; rintro xe y2 ⟨u2, rfl, hn, hb⟩; have K2 : Hid (Below w.heap.size w y2 ∧ FvB y2 w.heap.size (.int .i64 s) (.bool c) (.slice ao n cn) (.slice bo m cm) (.int .i64 e) ∧ NatV y2 vs P1 ∧ NatV y2 u2 Y) := ⟨G1.out.1.drew.trans (hb.mono G1.out.1.drew.size), (G1.out.2.1.step (Below.refl _ _).drew).step hb, (G1.out.2.2.below (Below.refl _ _).drew).below hb, hn⟩; clear hb hn; obtain ⟨_, b20, b21, b22, b23, b24⟩ := K2.out.2.1)
        | (go_at_call 10; refine (R2 _ _ _ (H0.out.1.next K2.out.1) K2.out.2.2.1 K2.out.2.2.2).mono ?_; rintro xe y3 ⟨rfl, hb⟩; have K3 : Hid (Below w.heap.size w y3 ∧ FvB y3 w.heap.size (.int .i64 s) (.bool c) (.slice ao n cn) (.slice bo m cm) (.int .i64 e) ∧ NatV y3 vs P1 ∧ NatV y3 u2 Y) := ⟨K2.out.1.trans (hb.mono K2.out.1.size), K2.out.2.1.step hb, K2.out.2.2.1.below hb, K2.out.2.2.2.below hb⟩; clear hb; obtain ⟨_, b30, b31, b32, b33, b34⟩ := K3.out.2.1))
    all_goals go_wp2_with fail
    all_goals go_meet
    all_goals exact ⟨rfl, rfl, K3.out.1, K3.out.2.1, K3.out.2.2.1⟩
  case rest =>
  clear G1 R2 a0 a1 a2 a3 a4
  obtain ⟨hu, hv, bx, xx, nx⟩ := hcut
  subst hu
  subst u10
  have G2 : Hid (Below w.heap.size w wc ∧ FvB wc w.heap.size (.int .i64 s) (.bool c) (.slice ao n cn) (.slice bo m cm) (.int .i64 e) ∧ NatV wc vs P1) := ⟨bx, xx, nx⟩
  clear bx xx nx
  obtain ⟨_, a0, a1, a2, a3, a4⟩ := G2.out.2.1
  go_upto_region 6 with fail
  go_cut [11, 12] (fun u v wx => u = .int .u64 (Z : Int) ∧ v = V1 ∧ Below w.heap.size w wx ∧ FvB wx w.heap.size (.int .i64 s) (.bool c) (.slice ao n cn) (.slice bo m cm) (.int .i64 e) ∧ NatV wx vs P1)
  case first =>
    go_region_held3 (fun w' => w'.cell? ⟨w.heap.size, 0, none⟩ = some (.int .i64 s) ∧ w'.cell? ⟨w.heap.size, 1, none⟩ = some (.bool c) ∧ w'.cell? ⟨w.heap.size, 2, none⟩ = some (.slice ao n cn) ∧ w'.cell? ⟨w.heap.size, 3, none⟩ = some (.slice bo m cm) ∧ w'.cell? ⟨w.heap.size, 4, none⟩ = some (.int .i64 e)) (simp [*, go_sem])
      (first
        | (go_at_call_of 9 (Value.slice ao n cn); refine (TN _ G2.out.1.drew).mono ?_; rintro xe y1 ⟨u1, rfl, hn, hb⟩; have K1 : Hid (Below w.heap.size w y1 ∧ FvB y1 w.heap.size (.int .i64 s) (.bool c) (.slice ao n cn) (.slice bo m cm) (.int .i64 e) ∧ NatV y1 vs P1 ∧ NatV y1 u1 X) := ⟨G2.out.1.drew.trans (hb.mono G2.out.1.drew.size), (G2.out.2.1.step (Below.refl _ _).drew).step hb, (G2.out.2.2.below (Below.refl _ _).drew).below hb, hn⟩; clear hb hn; obtain ⟨_, b10, b11, b12, b13, b14⟩ := K1.out.2.1)
        | (go_at_call_of 9 (Value.slice bo m cm); refine (TD _ K1.out.1).mono ?_; rintro xe y2 ⟨u2, rfl, hn, hb⟩; have K2 : Hid (Below w.heap.size w y2 ∧ FvB y2 w.heap.size (.int .i64 s) (.bool c) (.slice ao n cn) (.slice bo m cm) (.int .i64 e) ∧ NatV y2 vs P1 ∧ NatV y2 u1 X ∧ NatV y2 u2 Y) := ⟨K1.out.1.trans (hb.mono K1.out.1.size), K1.out.2.1.step hb, K1.out.2.2.1.below hb, K1.out.2.2.2.below hb, hn⟩; clear hb hn; obtain ⟨_, b20, b21, b22, b23, b24⟩ := K2.out.2.1)
        | (go_at_call 10; refine (R3 _ _ _ (H0.out.1.next K2.out.1) K2.out.2.2.2.1 K2.out.2.2.2.2).mono ?_; rintro xe y3 ⟨rfl, hb⟩; have K3 : Hid (Below w.heap.size w y3 ∧ FvB y3 w.heap.size (.int .i64 s) (.bool c) (.slice ao n cn) (.slice bo m cm) (.int .i64 e) ∧ NatV y3 vs P1 ∧ NatV y3 u1 X ∧ NatV y3 u2 Y) := ⟨K2.out.1.trans (hb.mono K2.out.1.size), K2.out.2.1.step hb, K2.out.2.2.1.below hb, K2.out.2.2.2.1.below hb, K2.out.2.2.2.2.below hb⟩; clear hb; obtain ⟨_, b30, b31, b32, b33, b34⟩ := K3.out.2.1))
    all_goals go_wp2_with fail
    all_goals go_meet
    all_goals exact ⟨rfl, rfl, K3.out.1, K3.out.2.1, K3.out.2.2.1⟩
  case rest =>
  clear G2 R3 a0 a1 a2 a3 a4
  obtain ⟨hu, hv, bx, xx, nx⟩ := hcut
  subst hu
  subst u12
  have G3 : Hid (Below w.heap.size w wc ∧ FvB wc w.heap.size (.int .i64 s) (.bool c) (.slice ao n cn) (.slice bo m cm) (.int .i64 e) ∧ NatV wc vs P1) := ⟨bx, xx, nx⟩
  clear bx xx nx
  obtain ⟨_, a0, a1, a2, a3, a4⟩ := G3.out.2.1
  have l1 : (A : Int) ≤ (D : Int) := by omega
  have l2 : (D : Int) ≤ (I : Int) := by omega
  clear le1 le2 TN TD TM A1
  rcases hkg with rfl | rfl
  · have ev : errV 0 = Value.nilIface := rfl
    rw [ev]
    clear ev N2
    go_upto_region 7 with fail
    refine wp_region_held_drew (S := (fun w' => w'.cell? ⟨w.heap.size, 0, none⟩ = some (.int .i64 s) ∧ w'.cell? ⟨w.heap.size, 1, none⟩ = some (.bool c) ∧ w'.cell? ⟨w.heap.size, 2, none⟩ = some (.slice ao n cn) ∧ w'.cell? ⟨w.heap.size, 3, none⟩ = some (.slice bo m cm) ∧ w'.cell? ⟨w.heap.size, 4, none⟩ = some (.int .i64 e))) (by kernel_rfl) (by simp [*, go_sem]) (fun hHeld => ?_)
    refine wpAnyH_take (i := 0) (oi := { dst := some 117, op := Op.move (Operand.tmp 6), type := 29, pos := "law.go:148", after := #[], guard := none }) (v := ?_) rfl (by kernel_rfl) (by kernel_rfl) (by kernel_rfl) (fun _ _ _ h => h) (Or.inl ⟨by rfl, ?_⟩) (by assumption) ?_
    rotate_left
    · intro wz hSw
      try dsimp only at hSw
      go_simp
      all_goals (with_reducible rfl)
    simp only [Act.put, List.setIfInBounds_toArray, List.set_cons_zero, List.set_cons_succ]
    refine wpAnyH_take (i := 1) (oi := { dst := some 118, op := Op.binOp BinOp.eql 29 (Operand.tmp 117) (Operand.const Value.nilIface) 29, type := 4, pos := "law.go:148", after := #[{ on := 0, ground := Ground.data }], guard := none }) (v := ?_) rfl (by kernel_rfl) (by kernel_rfl) (by kernel_rfl) (fun _ _ _ h => h) (Or.inl ⟨by rfl, ?_⟩) (by assumption) ?_
    rotate_left
    · intro wz hSw
      try dsimp only at hSw
      go_simp
      all_goals (with_reducible rfl)
    simp only [Act.put, List.setIfInBounds_toArray, List.set_cons_zero, List.set_cons_succ]
    refine wpAnyH_take (i := 2) (oi := { dst := some 119, op := Op.move (Operand.tmp 118), type := 4, pos := "law.go:148", after := #[{ on := 1, ground := Ground.data }], guard := none }) (v := ?_) rfl (by kernel_rfl) (by kernel_rfl) (by kernel_rfl) (fun _ _ _ h => h) (Or.inl ⟨by rfl, ?_⟩) (by assumption) ?_
    rotate_left
    · intro wz hSw
      try dsimp only at hSw
      go_simp
      all_goals (with_reducible rfl)
    simp only [Act.put, List.setIfInBounds_toArray, List.set_cons_zero, List.set_cons_succ]
    refine wpAnyH_take (i := 3) (oi := { dst := some 120, op := Op.move (Operand.tmp 7), type := 27, pos := "law.go:148", after := #[{ on := 2, ground := Ground.guard }], guard := some (2, true) }) (v := ?_) rfl (by kernel_rfl) (by kernel_rfl) (by kernel_rfl) (fun _ _ _ h => h) (Or.inl ⟨by rfl, ?_⟩) (by assumption) ?_
    rotate_left
    · intro wz hSw
      try dsimp only at hSw
      go_simp
      all_goals (with_reducible rfl)
    simp only [Act.put, List.setIfInBounds_toArray, List.set_cons_zero, List.set_cons_succ]
    refine wpAnyH_take (i := 4) (oi := { dst := some 121, op := Op.move (Operand.tmp 9), type := 27, pos := "law.go:148", after := #[{ on := 2, ground := Ground.guard }], guard := some (2, true) }) (v := ?_) rfl (by kernel_rfl) (by kernel_rfl) (by kernel_rfl) (fun _ _ _ h => h) (Or.inl ⟨by rfl, ?_⟩) (by assumption) ?_
    rotate_left
    · intro wz hSw
      try dsimp only at hSw
      go_simp
      all_goals (with_reducible rfl)
    simp only [Act.put, List.setIfInBounds_toArray, List.set_cons_zero, List.set_cons_succ]
    refine wpAnyH_take (i := 5) (oi := { dst := some 122, op := Op.binOp BinOp.leq 27 (Operand.tmp 120) (Operand.tmp 121) 27, type := 4, pos := "law.go:148", after := #[{ on := 3, ground := Ground.data }, { on := 4, ground := Ground.data }, { on := 2, ground := Ground.guard }], guard := some (2, true) }) (v := ?_) rfl (by kernel_rfl) (by kernel_rfl) (by kernel_rfl) (fun _ _ _ h => h) (Or.inl ⟨by rfl, ?_⟩) (by assumption) ?_
    rotate_left
    · intro wz hSw
      try dsimp only at hSw
      go_simp
      all_goals (with_reducible rfl)
    simp only [Act.put, List.setIfInBounds_toArray, List.set_cons_zero, List.set_cons_succ]
    refine wpAnyH_take (i := 6) (oi := { dst := some 123, op := Op.pick (Operand.tmp 119) (Operand.tmp 122) (Operand.const (Value.bool false)), type := 4, pos := "law.go:148", after := #[{ on := 2, ground := Ground.data }, { on := 5, ground := Ground.data }], guard := none }) (v := ?_) rfl (by kernel_rfl) (by kernel_rfl) (by kernel_rfl) (fun _ _ _ h => h) (Or.inl ⟨by rfl, ?_⟩) (by assumption) ?_
    rotate_left
    · intro wz hSw
      try dsimp only at hSw
      go_simp
      all_goals (with_reducible rfl)
    simp only [Act.put, List.setIfInBounds_toArray, List.set_cons_zero, List.set_cons_succ]
    refine wpAnyH_take (i := 7) (oi := { dst := some 124, op := Op.move (Operand.tmp 123), type := 4, pos := "law.go:148", after := #[{ on := 6, ground := Ground.data }, { on := 2, ground := Ground.chain }], guard := none }) (v := ?_) rfl (by kernel_rfl) (by kernel_rfl) (by kernel_rfl) (fun _ _ _ h => h) (Or.inl ⟨by rfl, ?_⟩) (by assumption) ?_
    rotate_left
    · intro wz hSw
      try dsimp only at hSw
      go_simp
      all_goals (with_reducible rfl)
    simp only [Act.put, List.setIfInBounds_toArray, List.set_cons_zero, List.set_cons_succ]
    refine wpAnyH_take (i := 8) (oi := { dst := some 125, op := Op.move (Operand.tmp 9), type := 27, pos := "law.go:148", after := #[{ on := 7, ground := Ground.guard }], guard := some (7, true) }) (v := ?_) rfl (by kernel_rfl) (by kernel_rfl) (by kernel_rfl) (fun _ _ _ h => h) (Or.inl ⟨by rfl, ?_⟩) (by assumption) ?_
    rotate_left
    · intro wz hSw
      try dsimp only at hSw
      go_simp
      all_goals (with_reducible rfl)
    simp only [Act.put, List.setIfInBounds_toArray, List.set_cons_zero, List.set_cons_succ]
    refine wpAnyH_take (i := 9) (oi := { dst := some 126, op := Op.fieldAddr 24 (Operand.tmp 2) 0, type := 0, pos := "law.go:148", after := #[{ on := 7, ground := Ground.guard }], guard := some (7, true) }) (v := ?_) rfl (by kernel_rfl) (by kernel_rfl) (by kernel_rfl) (fun _ _ _ h => h) (Or.inl ⟨by rfl, ?_⟩) (by assumption) ?_
    rotate_left
    · intro wz hSw
      try dsimp only at hSw
      go_simp
      all_goals (with_reducible rfl)
    simp only [Act.put, List.setIfInBounds_toArray, List.set_cons_zero, List.set_cons_succ]
    refine wpAnyH_take (i := 10) (oi := { dst := some 127, op := Op.load 3 (Operand.tmp 126), type := 3, pos := "law.go:148", after := #[{ on := 9, ground := Ground.data }, { on := 7, ground := Ground.guard }], guard := some (7, true) }) (v := ?_) rfl (by kernel_rfl) (by kernel_rfl) (by kernel_rfl) (fun _ _ _ h => h) (Or.inl ⟨by rfl, ?_⟩) (by assumption) ?_
    rotate_left
    · intro wz hSw
      try dsimp only at hSw
      go_simp
      all_goals (with_reducible rfl)
    simp only [Act.put, List.setIfInBounds_toArray, List.set_cons_zero, List.set_cons_succ]
    refine wpAnyH_ready (rs := [11]) (by kernel_rfl) (by simp) ?_
    refine AllReadyH.cons (o := { dst := some 128, op := Op.call { callee := Callee.value (Operand.func 26), args := #[Operand.tmp 127], argTypes := #[3] }, type := 27, pos := "law.go:148", after := #[{ on := 10, ground := Ground.data }, { on := 7, ground := Ground.chain }, { on := 7, ground := Ground.guard }], guard := some (7, true) }) rfl (fun K hK => ?_) AllReadyH.nil
    go_simp
    refine (TI _).mono ?_
    rintro xe yk ⟨rfl, hk⟩
    subst hk
    go_wp2_with fail
    refine hK.out _ _ hHeld (fun _ => ?_)
    clear hK K
    refine wpAnyH_take (i := 12) (oi := { dst := some 129, op := Op.binOp BinOp.leq 27 (Operand.tmp 125) (Operand.tmp 128) 27, type := 4, pos := "law.go:148", after := #[{ on := 8, ground := Ground.data }, { on := 11, ground := Ground.data }, { on := 7, ground := Ground.guard }], guard := some (7, true) }) (v := ?_) rfl (by kernel_rfl) (by kernel_rfl) (by kernel_rfl) (fun _ _ _ h => h) (Or.inl ⟨by rfl, ?_⟩) (by assumption) ?_
    rotate_left
    · intro wz hSw
      try dsimp only at hSw
      go_simp
      all_goals (with_reducible rfl)
    simp only [Act.put, List.setIfInBounds_toArray, List.set_cons_zero, List.set_cons_succ]
    refine wpAnyH_take (i := 13) (oi := { dst := some 130, op := Op.pick (Operand.tmp 124) (Operand.tmp 129) (Operand.const (Value.bool false)), type := 4, pos := "law.go:148", after := #[{ on := 7, ground := Ground.data }, { on := 12, ground := Ground.data }], guard := none }) (v := ?_) rfl (by kernel_rfl) (by kernel_rfl) (by kernel_rfl) (fun _ _ _ h => h) (Or.inl ⟨by rfl, ?_⟩) (by assumption) ?_
    rotate_left
    · intro wz hSw
      try dsimp only at hSw
      go_simp
      all_goals (with_reducible rfl)
    simp only [Act.put, List.setIfInBounds_toArray, List.set_cons_zero, List.set_cons_succ]
    refine wpAnyH_take (i := 14) (oi := { dst := some 131, op := Op.move (Operand.tmp 130), type := 4, pos := "law.go:148", after := #[{ on := 13, ground := Ground.data }, { on := 11, ground := Ground.chain }], guard := none }) (v := ?_) rfl (by kernel_rfl) (by kernel_rfl) (by kernel_rfl) (fun _ _ _ h => h) (Or.inl ⟨by rfl, ?_⟩) (by assumption) ?_
    rotate_left
    · intro wz hSw
      try dsimp only at hSw
      go_simp
      all_goals (with_reducible rfl)
    simp only [Act.put, List.setIfInBounds_toArray, List.set_cons_zero, List.set_cons_succ]
    refine wpAnyH_take (i := 15) (oi := { dst := some 132, op := Op.move (Operand.tmp 11), type := 27, pos := "law.go:148", after := #[{ on := 14, ground := Ground.guard }], guard := some (14, true) }) (v := ?_) rfl (by kernel_rfl) (by kernel_rfl) (by kernel_rfl) (fun _ _ _ h => h) (Or.inl ⟨by rfl, ?_⟩) (by assumption) ?_
    rotate_left
    · intro wz hSw
      try dsimp only at hSw
      go_simp
      all_goals (with_reducible rfl)
    simp only [Act.put, List.setIfInBounds_toArray, List.set_cons_zero, List.set_cons_succ]
    refine wpAnyH_take (i := 16) (oi := { dst := some 133, op := Op.move (Operand.tmp 7), type := 27, pos := "law.go:148", after := #[{ on := 14, ground := Ground.guard }], guard := some (14, true) }) (v := ?_) rfl (by kernel_rfl) (by kernel_rfl) (by kernel_rfl) (fun _ _ _ h => h) (Or.inl ⟨by rfl, ?_⟩) (by assumption) ?_
    rotate_left
    · intro wz hSw
      try dsimp only at hSw
      go_simp
      all_goals (with_reducible rfl)
    simp only [Act.put, List.setIfInBounds_toArray, List.set_cons_zero, List.set_cons_succ]
    refine wpAnyH_take (i := 17) (oi := { dst := some 134, op := Op.fieldAddr 24 (Operand.tmp 2) 0, type := 0, pos := "law.go:148", after := #[{ on := 14, ground := Ground.guard }], guard := some (14, true) }) (v := ?_) rfl (by kernel_rfl) (by kernel_rfl) (by kernel_rfl) (fun _ _ _ h => h) (Or.inl ⟨by rfl, ?_⟩) (by assumption) ?_
    rotate_left
    · intro wz hSw
      try dsimp only at hSw
      go_simp
      all_goals (with_reducible rfl)
    simp only [Act.put, List.setIfInBounds_toArray, List.set_cons_zero, List.set_cons_succ]
    refine wpAnyH_take (i := 18) (oi := { dst := some 135, op := Op.load 3 (Operand.tmp 134), type := 3, pos := "law.go:148", after := #[{ on := 17, ground := Ground.data }, { on := 14, ground := Ground.guard }], guard := some (14, true) }) (v := ?_) rfl (by kernel_rfl) (by kernel_rfl) (by kernel_rfl) (fun _ _ _ h => h) (Or.inl ⟨by rfl, ?_⟩) (by assumption) ?_
    rotate_left
    · intro wz hSw
      try dsimp only at hSw
      go_simp
      all_goals (with_reducible rfl)
    simp only [Act.put, List.setIfInBounds_toArray, List.set_cons_zero, List.set_cons_succ]
    refine wpAnyH_ready (rs := [19]) (by kernel_rfl) (by simp) ?_
    refine AllReadyH.cons (o := { dst := some 136, op := Op.call { callee := Callee.value (Operand.func 30), args := #[Operand.const (Value.bool true), Operand.tmp 133, Operand.tmp 135], argTypes := #[4, 27, 3] }, type := 27, pos := "law.go:148", after := #[{ on := 16, ground := Ground.data }, { on := 18, ground := Ground.data }, { on := 14, ground := Ground.chain }, { on := 14, ground := Ground.guard }], guard := some (14, true) }) rfl (fun K hK => ?_) AllReadyH.nil
    go_simp
    refine (SG _).mono ?_
    rintro xe yk ⟨rfl, hk⟩
    subst hk
    go_wp2_with fail
    refine hK.out _ _ hHeld (fun _ => ?_)
    clear hK K
    refine wpAnyH_take (i := 20) (oi := { dst := some 137, op := Op.binOp BinOp.eql 27 (Operand.tmp 132) (Operand.tmp 136) 27, type := 4, pos := "law.go:148", after := #[{ on := 15, ground := Ground.data }, { on := 19, ground := Ground.data }, { on := 14, ground := Ground.guard }], guard := some (14, true) }) (v := ?_) rfl (by kernel_rfl) (by kernel_rfl) (by kernel_rfl) (fun _ _ _ h => h) (Or.inl ⟨by rfl, ?_⟩) (by assumption) ?_
    rotate_left
    · intro wz hSw
      try dsimp only at hSw
      go_simp
      all_goals (with_reducible rfl)
    simp only [Act.put, List.setIfInBounds_toArray, List.set_cons_zero, List.set_cons_succ]
    refine wpAnyH_take (i := 21) (oi := { dst := some 138, op := Op.pick (Operand.tmp 131) (Operand.tmp 137) (Operand.const (Value.bool false)), type := 4, pos := "law.go:148", after := #[{ on := 14, ground := Ground.data }, { on := 20, ground := Ground.data }], guard := none }) (v := ?_) rfl (by kernel_rfl) (by kernel_rfl) (by kernel_rfl) (fun _ _ _ h => h) (Or.inl ⟨by rfl, ?_⟩) (by assumption) ?_
    rotate_left
    · intro wz hSw
      try dsimp only at hSw
      go_simp
      all_goals (with_reducible rfl)
    simp only [Act.put, List.setIfInBounds_toArray, List.set_cons_zero, List.set_cons_succ]
    refine wpAnyH_take (i := 22) (oi := { dst := some 139, op := Op.move (Operand.tmp 138), type := 4, pos := "law.go:148", after := #[{ on := 21, ground := Ground.data }, { on := 19, ground := Ground.chain }], guard := none }) (v := ?_) rfl (by kernel_rfl) (by kernel_rfl) (by kernel_rfl) (fun _ _ _ h => h) (Or.inl ⟨by rfl, ?_⟩) (by assumption) ?_
    rotate_left
    · intro wz hSw
      try dsimp only at hSw
      go_simp
      all_goals (with_reducible rfl)
    simp only [Act.put, List.setIfInBounds_toArray, List.set_cons_zero, List.set_cons_succ]
    refine wpAnyH_take (i := 23) (oi := { dst := some 140, op := Op.move (Operand.tmp 8), type := 29, pos := "law.go:148", after := #[{ on := 22, ground := Ground.guard }], guard := some (22, true) }) (v := ?_) rfl (by kernel_rfl) (by kernel_rfl) (by kernel_rfl) (fun _ _ _ h => h) (Or.inl ⟨by rfl, ?_⟩) (by assumption) ?_
    rotate_left
    · intro wz hSw
      try dsimp only at hSw
      go_simp
      all_goals (with_reducible rfl)
    simp only [Act.put, List.setIfInBounds_toArray, List.set_cons_zero, List.set_cons_succ]
    refine wpAnyH_take (i := 25) (oi := { dst := some 142, op := Op.move (Operand.tmp 12), type := 29, pos := "law.go:148", after := #[{ on := 22, ground := Ground.guard }], guard := some (22, true) }) (v := ?_) rfl (by kernel_rfl) (by kernel_rfl) (by kernel_rfl) (fun _ _ _ h => h) (Or.inl ⟨by rfl, ?_⟩) (by assumption) ?_
    rotate_left
    · intro wz hSw
      try dsimp only at hSw
      go_simp
      all_goals (with_reducible rfl)
    simp only [Act.put, List.setIfInBounds_toArray, List.set_cons_zero, List.set_cons_succ]
    refine wpAnyH_ready (rs := [24]) (by kernel_rfl) (by simp) ?_
    refine AllReadyH.cons (o := { dst := some 141, op := Op.call { callee := Callee.value (Operand.func 12), args := #[Operand.tmp 140], argTypes := #[29] }, type := 3, pos := "law.go:148", after := #[{ on := 23, ground := Ground.data }, { on := 22, ground := Ground.chain }, { on := 22, ground := Ground.guard }], guard := some (22, true) }) rfl (fun K hK => ?_) AllReadyH.nil
    go_simp
    refine (N1 _).mono ?_
    rintro xe yk ⟨rfl, hk⟩
    subst hk
    go_wp2_with fail
    refine hK.out _ _ hHeld (fun _ => ?_)
    clear hK K
    refine wpAnyH_ready (rs := [26]) (by kernel_rfl) (by simp) ?_
    refine AllReadyH.cons (o := { dst := some 143, op := Op.call { callee := Callee.value (Operand.func 12), args := #[Operand.tmp 142], argTypes := #[29] }, type := 3, pos := "law.go:148", after := #[{ on := 25, ground := Ground.data }, { on := 24, ground := Ground.chain }, { on := 22, ground := Ground.guard }], guard := some (22, true) }) rfl (fun K hK => ?_) AllReadyH.nil
    go_simp
    refine (N1 _).mono ?_
    rintro xe yk ⟨rfl, hk⟩
    subst hk
    go_wp2_with fail
    refine hK.out _ _ hHeld (fun _ => ?_)
    clear hK K
    refine wpAnyH_take (i := 27) (oi := { dst := some 144, op := Op.binOp BinOp.eql 3 (Operand.tmp 141) (Operand.tmp 143) 3, type := 4, pos := "law.go:148", after := #[{ on := 24, ground := Ground.data }, { on := 26, ground := Ground.data }, { on := 22, ground := Ground.guard }], guard := some (22, true) }) (v := ?_) rfl (by kernel_rfl) (by kernel_rfl) (by kernel_rfl) (fun _ _ _ h => h) (Or.inl ⟨by rfl, ?_⟩) (by assumption) ?_
    rotate_left
    · intro wz hSw
      try dsimp only at hSw
      go_simp
      all_goals (with_reducible rfl)
    simp only [Act.put, List.setIfInBounds_toArray, List.set_cons_zero, List.set_cons_succ]
    refine wpAnyH_take (i := 28) (oi := { dst := some 145, op := Op.pick (Operand.tmp 139) (Operand.tmp 144) (Operand.const (Value.bool false)), type := 4, pos := "law.go:148", after := #[{ on := 22, ground := Ground.data }, { on := 27, ground := Ground.data }], guard := none }) (v := ?_) rfl (by kernel_rfl) (by kernel_rfl) (by kernel_rfl) (fun _ _ _ h => h) (Or.inl ⟨by rfl, ?_⟩) (by assumption) ?_
    rotate_left
    · intro wz hSw
      try dsimp only at hSw
      go_simp
      all_goals (with_reducible rfl)
    simp only [Act.put, List.setIfInBounds_toArray, List.set_cons_zero, List.set_cons_succ]
    refine wpAnyH_take (i := 29) (oi := { dst := some 146, op := Op.move (Operand.tmp 145), type := 4, pos := "law.go:148", after := #[{ on := 28, ground := Ground.data }, { on := 26, ground := Ground.chain }], guard := none }) (v := ?_) rfl (by kernel_rfl) (by kernel_rfl) (by kernel_rfl) (fun _ _ _ h => h) (Or.inl ⟨by rfl, ?_⟩) (by assumption) ?_
    rotate_left
    · intro wz hSw
      try dsimp only at hSw
      go_simp
      all_goals (with_reducible rfl)
    simp only [Act.put, List.setIfInBounds_toArray, List.set_cons_zero, List.set_cons_succ]
    refine wpAnyH_take (i := 30) (oi := { dst := some 147, op := Op.move (Operand.tmp 8), type := 29, pos := "law.go:148", after := #[{ on := 29, ground := Ground.guard }], guard := some (29, true) }) (v := ?_) rfl (by kernel_rfl) (by kernel_rfl) (by kernel_rfl) (fun _ _ _ h => h) (Or.inl ⟨by rfl, ?_⟩) (by assumption) ?_
    rotate_left
    · intro wz hSw
      try dsimp only at hSw
      go_simp
      all_goals (with_reducible rfl)
    simp only [Act.put, List.setIfInBounds_toArray, List.set_cons_zero, List.set_cons_succ]
    refine wpAnyH_take (i := 33) (oi := { dst := some 150, op := Op.move (Operand.tmp 7), type := 27, pos := "law.go:148", after := #[{ on := 29, ground := Ground.guard }], guard := some (29, true) }) (v := ?_) rfl (by kernel_rfl) (by kernel_rfl) (by kernel_rfl) (fun _ _ _ h => h) (Or.inl ⟨by rfl, ?_⟩) (by assumption) ?_
    rotate_left
    · intro wz hSw
      try dsimp only at hSw
      go_simp
      all_goals (with_reducible rfl)
    simp only [Act.put, List.setIfInBounds_toArray, List.set_cons_zero, List.set_cons_succ]
    refine wpAnyH_take (i := 34) (oi := { dst := some 151, op := Op.fieldAddr 24 (Operand.tmp 2) 0, type := 0, pos := "law.go:148", after := #[{ on := 29, ground := Ground.guard }], guard := some (29, true) }) (v := ?_) rfl (by kernel_rfl) (by kernel_rfl) (by kernel_rfl) (fun _ _ _ h => h) (Or.inl ⟨by rfl, ?_⟩) (by assumption) ?_
    rotate_left
    · intro wz hSw
      try dsimp only at hSw
      go_simp
      all_goals (with_reducible rfl)
    simp only [Act.put, List.setIfInBounds_toArray, List.set_cons_zero, List.set_cons_succ]
    refine wpAnyH_take (i := 35) (oi := { dst := some 152, op := Op.load 3 (Operand.tmp 151), type := 3, pos := "law.go:148", after := #[{ on := 34, ground := Ground.data }, { on := 29, ground := Ground.guard }], guard := some (29, true) }) (v := ?_) rfl (by kernel_rfl) (by kernel_rfl) (by kernel_rfl) (fun _ _ _ h => h) (Or.inl ⟨by rfl, ?_⟩) (by assumption) ?_
    rotate_left
    · intro wz hSw
      try dsimp only at hSw
      go_simp
      all_goals (with_reducible rfl)
    simp only [Act.put, List.setIfInBounds_toArray, List.set_cons_zero, List.set_cons_succ]
    refine wpAnyH_ready (rs := [31]) (by kernel_rfl) (by simp) ?_
    refine AllReadyH.cons (o := { dst := some 148, op := Op.call { callee := Callee.value (Operand.func 12), args := #[Operand.tmp 147], argTypes := #[29] }, type := 3, pos := "law.go:148", after := #[{ on := 30, ground := Ground.data }, { on := 29, ground := Ground.chain }, { on := 29, ground := Ground.guard }], guard := some (29, true) }) rfl (fun K hK => ?_) AllReadyH.nil
    go_simp
    refine (N1 _).mono ?_
    rintro xe yk ⟨rfl, hk⟩
    subst hk
    go_wp2_with fail
    refine hK.out _ _ hHeld (fun _ => ?_)
    clear hK K
    refine wpAnyH_take (i := 32) (oi := { dst := some 149, op := Op.binOp BinOp.eql 3 (Operand.tmp 148) (Operand.const (Value.int IntKind.i64 4)) 3, type := 4, pos := "law.go:148", after := #[{ on := 31, ground := Ground.data }, { on := 29, ground := Ground.guard }], guard := some (29, true) }) (v := ?_) rfl (by kernel_rfl) (by kernel_rfl) (by kernel_rfl) (fun _ _ _ h => h) (Or.inl ⟨by rfl, ?_⟩) (by assumption) ?_
    rotate_left
    · intro wz hSw
      try dsimp only at hSw
      go_simp
      all_goals (with_reducible rfl)
    simp only [Act.put, List.setIfInBounds_toArray, List.set_cons_zero, List.set_cons_succ]
    refine wpAnyH_ready (rs := [36]) (by kernel_rfl) (by simp) ?_
    refine AllReadyH.cons (o := { dst := some 153, op := Op.call { callee := Callee.value (Operand.func 26), args := #[Operand.tmp 152], argTypes := #[3] }, type := 27, pos := "law.go:148", after := #[{ on := 35, ground := Ground.data }, { on := 31, ground := Ground.chain }, { on := 29, ground := Ground.guard }], guard := some (29, true) }) rfl (fun K hK => ?_) AllReadyH.nil
    go_simp
    refine (TI _).mono ?_
    rintro xe yk ⟨rfl, hk⟩
    subst hk
    go_wp2_with fail
    refine hK.out _ _ hHeld (fun _ => ?_)
    clear hK K
    refine wpAnyH_take (i := 37) (oi := { dst := some 154, op := Op.binOp BinOp.eql 27 (Operand.tmp 150) (Operand.tmp 153) 27, type := 4, pos := "law.go:148", after := #[{ on := 33, ground := Ground.data }, { on := 36, ground := Ground.data }, { on := 29, ground := Ground.guard }], guard := some (29, true) }) (v := ?_) rfl (by kernel_rfl) (by kernel_rfl) (by kernel_rfl) (fun _ _ _ h => h) (Or.inl ⟨by rfl, ?_⟩) (by assumption) ?_
    rotate_left
    · intro wz hSw
      try dsimp only at hSw
      go_simp
      all_goals (with_reducible rfl)
    simp only [Act.put, List.setIfInBounds_toArray, List.set_cons_zero, List.set_cons_succ]
    refine wpAnyH_take (i := 38) (oi := { dst := some 155, op := Op.binOp BinOp.eql 4 (Operand.tmp 149) (Operand.tmp 154) 4, type := 4, pos := "law.go:148", after := #[{ on := 32, ground := Ground.data }, { on := 37, ground := Ground.data }, { on := 29, ground := Ground.guard }], guard := some (29, true) }) (v := ?_) rfl (by kernel_rfl) (by kernel_rfl) (by kernel_rfl) (fun _ _ _ h => h) (Or.inl ⟨by rfl, ?_⟩) (by assumption) ?_
    rotate_left
    · intro wz hSw
      try dsimp only at hSw
      go_simp
      all_goals (with_reducible rfl)
    simp only [Act.put, List.setIfInBounds_toArray, List.set_cons_zero, List.set_cons_succ]
    refine wpAnyH_take (i := 39) (oi := { dst := some 156, op := Op.pick (Operand.tmp 146) (Operand.tmp 155) (Operand.const (Value.bool false)), type := 4, pos := "law.go:148", after := #[{ on := 29, ground := Ground.data }, { on := 38, ground := Ground.data }], guard := none }) (v := ?_) rfl (by kernel_rfl) (by kernel_rfl) (by kernel_rfl) (fun _ _ _ h => h) (Or.inl ⟨by rfl, ?_⟩) (by assumption) ?_
    rotate_left
    · intro wz hSw
      try dsimp only at hSw
      go_simp
      all_goals (with_reducible rfl)
    simp only [Act.put, List.setIfInBounds_toArray, List.set_cons_zero, List.set_cons_succ]
    refine wpAnyH_take (i := 40) (oi := { dst := some 157, op := Op.move (Operand.tmp 156), type := 4, pos := "law.go:148", after := #[{ on := 39, ground := Ground.data }, { on := 36, ground := Ground.chain }], guard := none }) (v := ?_) rfl (by kernel_rfl) (by kernel_rfl) (by kernel_rfl) (fun _ _ _ h => h) (Or.inl ⟨by rfl, ?_⟩) (by assumption) ?_
    rotate_left
    · intro wz hSw
      try dsimp only at hSw
      go_simp
      all_goals (with_reducible rfl)
    simp only [Act.put, List.setIfInBounds_toArray, List.set_cons_zero, List.set_cons_succ]
    refine wpAnyH_take (i := 41) (oi := { dst := some 158, op := Op.move (Operand.tmp 10), type := 29, pos := "law.go:148", after := #[{ on := 40, ground := Ground.guard }], guard := some (40, true) }) (v := ?_) rfl (by kernel_rfl) (by kernel_rfl) (by kernel_rfl) (fun _ _ _ h => h) (Or.inl ⟨by rfl, ?_⟩) (by assumption) ?_
    rotate_left
    · intro wz hSw
      try dsimp only at hSw
      go_simp
      all_goals (with_reducible rfl)
    simp only [Act.put, List.setIfInBounds_toArray, List.set_cons_zero, List.set_cons_succ]
    refine wpAnyH_take (i := 42) (oi := { dst := some 159, op := Op.binOp BinOp.eql 29 (Operand.tmp 158) (Operand.const Value.nilIface) 29, type := 4, pos := "law.go:148", after := #[{ on := 41, ground := Ground.data }, { on := 40, ground := Ground.guard }], guard := some (40, true) }) (v := ?_) rfl (by kernel_rfl) (by kernel_rfl) (by kernel_rfl) (fun _ _ _ h => h) (Or.inl ⟨by rfl, ?_⟩) (by assumption) ?_
    rotate_left
    · intro wz hSw
      try dsimp only at hSw
      go_simp
      all_goals (with_reducible rfl)
    simp only [Act.put, List.setIfInBounds_toArray, List.set_cons_zero, List.set_cons_succ]
    refine wpAnyH_take (i := 43) (oi := { dst := some 160, op := Op.move (Operand.tmp 159), type := 4, pos := "law.go:148", after := #[{ on := 42, ground := Ground.data }, { on := 40, ground := Ground.chain }, { on := 40, ground := Ground.guard }], guard := some (40, true) }) (v := ?_) rfl (by kernel_rfl) (by kernel_rfl) (by kernel_rfl) (fun _ _ _ h => h) (Or.inl ⟨by rfl, ?_⟩) (by assumption) ?_
    rotate_left
    · intro wz hSw
      try dsimp only at hSw
      go_simp
      all_goals (with_reducible rfl)
    simp only [Act.put, List.setIfInBounds_toArray, List.set_cons_zero, List.set_cons_succ]
    refine wpAnyH_take (i := 44) (oi := { dst := some 161, op := Op.move (Operand.tmp 10), type := 29, pos := "law.go:148", after := #[{ on := 43, ground := Ground.guard }], guard := some (43, false) }) (v := undef) rfl (by kernel_rfl) (by kernel_rfl) (by kernel_rfl) (fun _ _ _ h => h) (Or.inr ⟨by rfl, rfl⟩) (by assumption) ?_
    simp only [Act.put, List.setIfInBounds_toArray, List.set_cons_zero, List.set_cons_succ]
    refine wpAnyH_take (i := 45) (oi := { dst := some 162, op := Op.call { callee := Callee.value (Operand.func 12), args := #[Operand.tmp 161], argTypes := #[29] }, type := 3, pos := "law.go:148", after := #[{ on := 44, ground := Ground.data }, { on := 43, ground := Ground.chain }, { on := 43, ground := Ground.guard }], guard := some (43, false) }) (v := undef) rfl (by kernel_rfl) (by kernel_rfl) (by kernel_rfl) (fun _ _ _ h => h) (Or.inr ⟨by rfl, rfl⟩) (by assumption) ?_
    simp only [Act.put, List.setIfInBounds_toArray, List.set_cons_zero, List.set_cons_succ]
    refine wpAnyH_take (i := 46) (oi := { dst := some 163, op := Op.binOp BinOp.eql 3 (Operand.tmp 162) (Operand.const (Value.int IntKind.i64 4)) 3, type := 4, pos := "law.go:148", after := #[{ on := 45, ground := Ground.data }, { on := 43, ground := Ground.guard }], guard := some (43, false) }) (v := undef) rfl (by kernel_rfl) (by kernel_rfl) (by kernel_rfl) (fun _ _ _ h => h) (Or.inr ⟨by rfl, rfl⟩) (by assumption) ?_
    simp only [Act.put, List.setIfInBounds_toArray, List.set_cons_zero, List.set_cons_succ]
    refine wpAnyH_take (i := 47) (oi := { dst := some 164, op := Op.pick (Operand.tmp 160) (Operand.const (Value.bool true)) (Operand.tmp 163), type := 4, pos := "law.go:148", after := #[{ on := 43, ground := Ground.data }, { on := 46, ground := Ground.data }, { on := 40, ground := Ground.guard }], guard := some (40, true) }) (v := ?_) rfl (by kernel_rfl) (by kernel_rfl) (by kernel_rfl) (fun _ _ _ h => h) (Or.inl ⟨by rfl, ?_⟩) (by assumption) ?_
    rotate_left
    · intro wz hSw
      try dsimp only at hSw
      go_simp
      all_goals (with_reducible rfl)
    simp only [Act.put, List.setIfInBounds_toArray, List.set_cons_zero, List.set_cons_succ]
    refine wpAnyH_take (i := 48) (oi := { dst := some 165, op := Op.pick (Operand.tmp 157) (Operand.tmp 164) (Operand.const (Value.bool false)), type := 4, pos := "law.go:148", after := #[{ on := 40, ground := Ground.data }, { on := 47, ground := Ground.data }], guard := none }) (v := ?_) rfl (by kernel_rfl) (by kernel_rfl) (by kernel_rfl) (fun _ _ _ h => h) (Or.inl ⟨by rfl, ?_⟩) (by assumption) ?_
    rotate_left
    · intro wz hSw
      try dsimp only at hSw
      go_simp
      all_goals (with_reducible rfl)
    simp only [Act.put, List.setIfInBounds_toArray, List.set_cons_zero, List.set_cons_succ]
    refine wpAnyH_take (i := 49) (oi := { dst := some 166, op := Op.move (Operand.tmp 165), type := 4, pos := "law.go:148", after := #[{ on := 48, ground := Ground.data }, { on := 45, ground := Ground.chain }], guard := none }) (v := ?_) rfl (by kernel_rfl) (by kernel_rfl) (by kernel_rfl) (fun _ _ _ h => h) (Or.inl ⟨by rfl, ?_⟩) (by assumption) ?_
    rotate_left
    · intro wz hSw
      try dsimp only at hSw
      go_simp
      all_goals (with_reducible rfl)
    simp only [Act.put, List.setIfInBounds_toArray, List.set_cons_zero, List.set_cons_succ]
    refine wpAnyH_ready (rs := [50]) (by kernel_rfl) (by simp) ?_
    refine AllReadyH.cons (o := { dst := some 167, op := Op.call { callee := Callee.value (Operand.func 14), args := #[], argTypes := #[] }, type := 4, pos := "law.go:148", after := #[{ on := 49, ground := Ground.chain }, { on := 49, ground := Ground.guard }], guard := some (49, true) }) rfl (fun K hK => ?_) AllReadyH.nil
    go_simp
    refine (HW _ (H0.out.1.next G3.out.1.drew)).mono ?_
    rintro xe yk ⟨rfl, hb⟩
    have BK : Hid (Below w.heap.size w yk) := G3.out.1.drew.trans (hb.mono G3.out.1.drew.size)
    have KK : Hid (FvB yk w.heap.size (.int .i64 s) (.bool c) (.slice ao n cn) (.slice bo m cm) (.int .i64 e)) := (G3.out.2.1.step (Below.refl _ _).drew).step hb
    clear hb
    obtain ⟨_, k0, k1, k2, k3, k4⟩ := KK.out
    go_wp2_with fail
    refine hK.out _ _ ⟨k0, k1, k2, k3, k4⟩ (fun hHeld => ?_)
    clear hK K
    refine wpAnyH_take (i := 51) (oi := { dst := some 168, op := Op.pick (Operand.tmp 166) (Operand.tmp 167) (Operand.const (Value.bool false)), type := 4, pos := "law.go:148", after := #[{ on := 49, ground := Ground.data }, { on := 50, ground := Ground.data }], guard := none }) (v := ?_) rfl (by kernel_rfl) (by kernel_rfl) (by kernel_rfl) (fun _ _ _ h => h) (Or.inl ⟨by rfl, ?_⟩) (by assumption) ?_
    rotate_left
    · intro wz hSw
      try dsimp only at hSw
      go_simp
      all_goals (with_reducible rfl)
    simp only [Act.put, List.setIfInBounds_toArray, List.set_cons_zero, List.set_cons_succ]
    refine wpAnyH_take (i := 52) (oi := { dst := some 4, op := Op.assign (Operand.tmp 168), type := 4, pos := "law.go:148", after := #[{ on := 51, ground := Ground.data }, { on := 50, ground := Ground.chain }, { on := 0, ground := Ground.phase }, { on := 1, ground := Ground.phase }, { on := 2, ground := Ground.phase }, { on := 3, ground := Ground.phase }, { on := 4, ground := Ground.phase }, { on := 5, ground := Ground.phase }, { on := 6, ground := Ground.phase }, { on := 7, ground := Ground.phase }, { on := 8, ground := Ground.phase }, { on := 9, ground := Ground.phase }, { on := 10, ground := Ground.phase }, { on := 11, ground := Ground.phase }, { on := 12, ground := Ground.phase }, { on := 13, ground := Ground.phase }, { on := 14, ground := Ground.phase }, { on := 15, ground := Ground.phase }, { on := 16, ground := Ground.phase }, { on := 17, ground := Ground.phase }, { on := 18, ground := Ground.phase }, { on := 19, ground := Ground.phase }, { on := 20, ground := Ground.phase }, { on := 21, ground := Ground.phase }, { on := 22, ground := Ground.phase }, { on := 23, ground := Ground.phase }, { on := 24, ground := Ground.phase }, { on := 25, ground := Ground.phase }, { on := 26, ground := Ground.phase }, { on := 27, ground := Ground.phase }, { on := 28, ground := Ground.phase }, { on := 29, ground := Ground.phase }, { on := 30, ground := Ground.phase }, { on := 31, ground := Ground.phase }, { on := 32, ground := Ground.phase }, { on := 33, ground := Ground.phase }, { on := 34, ground := Ground.phase }, { on := 35, ground := Ground.phase }, { on := 36, ground := Ground.phase }, { on := 37, ground := Ground.phase }, { on := 38, ground := Ground.phase }, { on := 39, ground := Ground.phase }, { on := 40, ground := Ground.phase }, { on := 41, ground := Ground.phase }, { on := 42, ground := Ground.phase }, { on := 43, ground := Ground.phase }, { on := 44, ground := Ground.phase }, { on := 45, ground := Ground.phase }, { on := 46, ground := Ground.phase }, { on := 47, ground := Ground.phase }, { on := 48, ground := Ground.phase }, { on := 49, ground := Ground.phase }, { on := 50, ground := Ground.phase }, { on := 51, ground := Ground.phase }], guard := none }) (v := ?_) rfl (by kernel_rfl) (by kernel_rfl) (by kernel_rfl) (fun _ _ _ h => h) (Or.inl ⟨by rfl, ?_⟩) (by assumption) ?_
    rotate_left
    · intro wz hSw
      try dsimp only at hSw
      go_simp
      all_goals (with_reducible rfl)
    simp only [Act.put, List.setIfInBounds_toArray, List.set_cons_zero, List.set_cons_succ]
    refine wpAnyH_done (by kernel_rfl) ?_ _
    go_wp2
    go_ret
    exact ⟨rfl, BK.out⟩
  · have ev : errV 4 = Value.iface 76 (.int .i64 4) := rfl
    rw [ev] at N2
    rw [ev]
    clear ev
    go_upto_region 7 with fail
    refine wp_region_held_drew (S := (fun w' => w'.cell? ⟨w.heap.size, 0, none⟩ = some (.int .i64 s) ∧ w'.cell? ⟨w.heap.size, 1, none⟩ = some (.bool c) ∧ w'.cell? ⟨w.heap.size, 2, none⟩ = some (.slice ao n cn) ∧ w'.cell? ⟨w.heap.size, 3, none⟩ = some (.slice bo m cm) ∧ w'.cell? ⟨w.heap.size, 4, none⟩ = some (.int .i64 e))) (by kernel_rfl) (by simp [*, go_sem]) (fun hHeld => ?_)
    refine wpAnyH_take (i := 0) (oi := { dst := some 117, op := Op.move (Operand.tmp 6), type := 29, pos := "law.go:148", after := #[], guard := none }) (v := ?_) rfl (by kernel_rfl) (by kernel_rfl) (by kernel_rfl) (fun _ _ _ h => h) (Or.inl ⟨by rfl, ?_⟩) (by assumption) ?_
    rotate_left
    · intro wz hSw
      try dsimp only at hSw
      go_simp
      all_goals (with_reducible rfl)
    simp only [Act.put, List.setIfInBounds_toArray, List.set_cons_zero, List.set_cons_succ]
    refine wpAnyH_take (i := 1) (oi := { dst := some 118, op := Op.binOp BinOp.eql 29 (Operand.tmp 117) (Operand.const Value.nilIface) 29, type := 4, pos := "law.go:148", after := #[{ on := 0, ground := Ground.data }], guard := none }) (v := ?_) rfl (by kernel_rfl) (by kernel_rfl) (by kernel_rfl) (fun _ _ _ h => h) (Or.inl ⟨by rfl, ?_⟩) (by assumption) ?_
    rotate_left
    · intro wz hSw
      try dsimp only at hSw
      go_simp
      all_goals (with_reducible rfl)
    simp only [Act.put, List.setIfInBounds_toArray, List.set_cons_zero, List.set_cons_succ]
    refine wpAnyH_take (i := 2) (oi := { dst := some 119, op := Op.move (Operand.tmp 118), type := 4, pos := "law.go:148", after := #[{ on := 1, ground := Ground.data }], guard := none }) (v := ?_) rfl (by kernel_rfl) (by kernel_rfl) (by kernel_rfl) (fun _ _ _ h => h) (Or.inl ⟨by rfl, ?_⟩) (by assumption) ?_
    rotate_left
    · intro wz hSw
      try dsimp only at hSw
      go_simp
      all_goals (with_reducible rfl)
    simp only [Act.put, List.setIfInBounds_toArray, List.set_cons_zero, List.set_cons_succ]
    refine wpAnyH_take (i := 3) (oi := { dst := some 120, op := Op.move (Operand.tmp 7), type := 27, pos := "law.go:148", after := #[{ on := 2, ground := Ground.guard }], guard := some (2, true) }) (v := ?_) rfl (by kernel_rfl) (by kernel_rfl) (by kernel_rfl) (fun _ _ _ h => h) (Or.inl ⟨by rfl, ?_⟩) (by assumption) ?_
    rotate_left
    · intro wz hSw
      try dsimp only at hSw
      go_simp
      all_goals (with_reducible rfl)
    simp only [Act.put, List.setIfInBounds_toArray, List.set_cons_zero, List.set_cons_succ]
    refine wpAnyH_take (i := 4) (oi := { dst := some 121, op := Op.move (Operand.tmp 9), type := 27, pos := "law.go:148", after := #[{ on := 2, ground := Ground.guard }], guard := some (2, true) }) (v := ?_) rfl (by kernel_rfl) (by kernel_rfl) (by kernel_rfl) (fun _ _ _ h => h) (Or.inl ⟨by rfl, ?_⟩) (by assumption) ?_
    rotate_left
    · intro wz hSw
      try dsimp only at hSw
      go_simp
      all_goals (with_reducible rfl)
    simp only [Act.put, List.setIfInBounds_toArray, List.set_cons_zero, List.set_cons_succ]
    refine wpAnyH_take (i := 5) (oi := { dst := some 122, op := Op.binOp BinOp.leq 27 (Operand.tmp 120) (Operand.tmp 121) 27, type := 4, pos := "law.go:148", after := #[{ on := 3, ground := Ground.data }, { on := 4, ground := Ground.data }, { on := 2, ground := Ground.guard }], guard := some (2, true) }) (v := ?_) rfl (by kernel_rfl) (by kernel_rfl) (by kernel_rfl) (fun _ _ _ h => h) (Or.inl ⟨by rfl, ?_⟩) (by assumption) ?_
    rotate_left
    · intro wz hSw
      try dsimp only at hSw
      go_simp
      all_goals (with_reducible rfl)
    simp only [Act.put, List.setIfInBounds_toArray, List.set_cons_zero, List.set_cons_succ]
    refine wpAnyH_take (i := 6) (oi := { dst := some 123, op := Op.pick (Operand.tmp 119) (Operand.tmp 122) (Operand.const (Value.bool false)), type := 4, pos := "law.go:148", after := #[{ on := 2, ground := Ground.data }, { on := 5, ground := Ground.data }], guard := none }) (v := ?_) rfl (by kernel_rfl) (by kernel_rfl) (by kernel_rfl) (fun _ _ _ h => h) (Or.inl ⟨by rfl, ?_⟩) (by assumption) ?_
    rotate_left
    · intro wz hSw
      try dsimp only at hSw
      go_simp
      all_goals (with_reducible rfl)
    simp only [Act.put, List.setIfInBounds_toArray, List.set_cons_zero, List.set_cons_succ]
    refine wpAnyH_take (i := 7) (oi := { dst := some 124, op := Op.move (Operand.tmp 123), type := 4, pos := "law.go:148", after := #[{ on := 6, ground := Ground.data }, { on := 2, ground := Ground.chain }], guard := none }) (v := ?_) rfl (by kernel_rfl) (by kernel_rfl) (by kernel_rfl) (fun _ _ _ h => h) (Or.inl ⟨by rfl, ?_⟩) (by assumption) ?_
    rotate_left
    · intro wz hSw
      try dsimp only at hSw
      go_simp
      all_goals (with_reducible rfl)
    simp only [Act.put, List.setIfInBounds_toArray, List.set_cons_zero, List.set_cons_succ]
    refine wpAnyH_take (i := 8) (oi := { dst := some 125, op := Op.move (Operand.tmp 9), type := 27, pos := "law.go:148", after := #[{ on := 7, ground := Ground.guard }], guard := some (7, true) }) (v := ?_) rfl (by kernel_rfl) (by kernel_rfl) (by kernel_rfl) (fun _ _ _ h => h) (Or.inl ⟨by rfl, ?_⟩) (by assumption) ?_
    rotate_left
    · intro wz hSw
      try dsimp only at hSw
      go_simp
      all_goals (with_reducible rfl)
    simp only [Act.put, List.setIfInBounds_toArray, List.set_cons_zero, List.set_cons_succ]
    refine wpAnyH_take (i := 9) (oi := { dst := some 126, op := Op.fieldAddr 24 (Operand.tmp 2) 0, type := 0, pos := "law.go:148", after := #[{ on := 7, ground := Ground.guard }], guard := some (7, true) }) (v := ?_) rfl (by kernel_rfl) (by kernel_rfl) (by kernel_rfl) (fun _ _ _ h => h) (Or.inl ⟨by rfl, ?_⟩) (by assumption) ?_
    rotate_left
    · intro wz hSw
      try dsimp only at hSw
      go_simp
      all_goals (with_reducible rfl)
    simp only [Act.put, List.setIfInBounds_toArray, List.set_cons_zero, List.set_cons_succ]
    refine wpAnyH_take (i := 10) (oi := { dst := some 127, op := Op.load 3 (Operand.tmp 126), type := 3, pos := "law.go:148", after := #[{ on := 9, ground := Ground.data }, { on := 7, ground := Ground.guard }], guard := some (7, true) }) (v := ?_) rfl (by kernel_rfl) (by kernel_rfl) (by kernel_rfl) (fun _ _ _ h => h) (Or.inl ⟨by rfl, ?_⟩) (by assumption) ?_
    rotate_left
    · intro wz hSw
      try dsimp only at hSw
      go_simp
      all_goals (with_reducible rfl)
    simp only [Act.put, List.setIfInBounds_toArray, List.set_cons_zero, List.set_cons_succ]
    refine wpAnyH_ready (rs := [11]) (by kernel_rfl) (by simp) ?_
    refine AllReadyH.cons (o := { dst := some 128, op := Op.call { callee := Callee.value (Operand.func 26), args := #[Operand.tmp 127], argTypes := #[3] }, type := 27, pos := "law.go:148", after := #[{ on := 10, ground := Ground.data }, { on := 7, ground := Ground.chain }, { on := 7, ground := Ground.guard }], guard := some (7, true) }) rfl (fun K hK => ?_) AllReadyH.nil
    go_simp
    refine (TI _).mono ?_
    rintro xe yk ⟨rfl, hk⟩
    subst hk
    go_wp2_with fail
    refine hK.out _ _ hHeld (fun _ => ?_)
    clear hK K
    refine wpAnyH_take (i := 12) (oi := { dst := some 129, op := Op.binOp BinOp.leq 27 (Operand.tmp 125) (Operand.tmp 128) 27, type := 4, pos := "law.go:148", after := #[{ on := 8, ground := Ground.data }, { on := 11, ground := Ground.data }, { on := 7, ground := Ground.guard }], guard := some (7, true) }) (v := ?_) rfl (by kernel_rfl) (by kernel_rfl) (by kernel_rfl) (fun _ _ _ h => h) (Or.inl ⟨by rfl, ?_⟩) (by assumption) ?_
    rotate_left
    · intro wz hSw
      try dsimp only at hSw
      go_simp
      all_goals (with_reducible rfl)
    simp only [Act.put, List.setIfInBounds_toArray, List.set_cons_zero, List.set_cons_succ]
    refine wpAnyH_take (i := 13) (oi := { dst := some 130, op := Op.pick (Operand.tmp 124) (Operand.tmp 129) (Operand.const (Value.bool false)), type := 4, pos := "law.go:148", after := #[{ on := 7, ground := Ground.data }, { on := 12, ground := Ground.data }], guard := none }) (v := ?_) rfl (by kernel_rfl) (by kernel_rfl) (by kernel_rfl) (fun _ _ _ h => h) (Or.inl ⟨by rfl, ?_⟩) (by assumption) ?_
    rotate_left
    · intro wz hSw
      try dsimp only at hSw
      go_simp
      all_goals (with_reducible rfl)
    simp only [Act.put, List.setIfInBounds_toArray, List.set_cons_zero, List.set_cons_succ]
    refine wpAnyH_take (i := 14) (oi := { dst := some 131, op := Op.move (Operand.tmp 130), type := 4, pos := "law.go:148", after := #[{ on := 13, ground := Ground.data }, { on := 11, ground := Ground.chain }], guard := none }) (v := ?_) rfl (by kernel_rfl) (by kernel_rfl) (by kernel_rfl) (fun _ _ _ h => h) (Or.inl ⟨by rfl, ?_⟩) (by assumption) ?_
    rotate_left
    · intro wz hSw
      try dsimp only at hSw
      go_simp
      all_goals (with_reducible rfl)
    simp only [Act.put, List.setIfInBounds_toArray, List.set_cons_zero, List.set_cons_succ]
    refine wpAnyH_take (i := 15) (oi := { dst := some 132, op := Op.move (Operand.tmp 11), type := 27, pos := "law.go:148", after := #[{ on := 14, ground := Ground.guard }], guard := some (14, true) }) (v := ?_) rfl (by kernel_rfl) (by kernel_rfl) (by kernel_rfl) (fun _ _ _ h => h) (Or.inl ⟨by rfl, ?_⟩) (by assumption) ?_
    rotate_left
    · intro wz hSw
      try dsimp only at hSw
      go_simp
      all_goals (with_reducible rfl)
    simp only [Act.put, List.setIfInBounds_toArray, List.set_cons_zero, List.set_cons_succ]
    refine wpAnyH_take (i := 16) (oi := { dst := some 133, op := Op.move (Operand.tmp 7), type := 27, pos := "law.go:148", after := #[{ on := 14, ground := Ground.guard }], guard := some (14, true) }) (v := ?_) rfl (by kernel_rfl) (by kernel_rfl) (by kernel_rfl) (fun _ _ _ h => h) (Or.inl ⟨by rfl, ?_⟩) (by assumption) ?_
    rotate_left
    · intro wz hSw
      try dsimp only at hSw
      go_simp
      all_goals (with_reducible rfl)
    simp only [Act.put, List.setIfInBounds_toArray, List.set_cons_zero, List.set_cons_succ]
    refine wpAnyH_take (i := 17) (oi := { dst := some 134, op := Op.fieldAddr 24 (Operand.tmp 2) 0, type := 0, pos := "law.go:148", after := #[{ on := 14, ground := Ground.guard }], guard := some (14, true) }) (v := ?_) rfl (by kernel_rfl) (by kernel_rfl) (by kernel_rfl) (fun _ _ _ h => h) (Or.inl ⟨by rfl, ?_⟩) (by assumption) ?_
    rotate_left
    · intro wz hSw
      try dsimp only at hSw
      go_simp
      all_goals (with_reducible rfl)
    simp only [Act.put, List.setIfInBounds_toArray, List.set_cons_zero, List.set_cons_succ]
    refine wpAnyH_take (i := 18) (oi := { dst := some 135, op := Op.load 3 (Operand.tmp 134), type := 3, pos := "law.go:148", after := #[{ on := 17, ground := Ground.data }, { on := 14, ground := Ground.guard }], guard := some (14, true) }) (v := ?_) rfl (by kernel_rfl) (by kernel_rfl) (by kernel_rfl) (fun _ _ _ h => h) (Or.inl ⟨by rfl, ?_⟩) (by assumption) ?_
    rotate_left
    · intro wz hSw
      try dsimp only at hSw
      go_simp
      all_goals (with_reducible rfl)
    simp only [Act.put, List.setIfInBounds_toArray, List.set_cons_zero, List.set_cons_succ]
    refine wpAnyH_ready (rs := [19]) (by kernel_rfl) (by simp) ?_
    refine AllReadyH.cons (o := { dst := some 136, op := Op.call { callee := Callee.value (Operand.func 30), args := #[Operand.const (Value.bool true), Operand.tmp 133, Operand.tmp 135], argTypes := #[4, 27, 3] }, type := 27, pos := "law.go:148", after := #[{ on := 16, ground := Ground.data }, { on := 18, ground := Ground.data }, { on := 14, ground := Ground.chain }, { on := 14, ground := Ground.guard }], guard := some (14, true) }) rfl (fun K hK => ?_) AllReadyH.nil
    go_simp
    refine (SG _).mono ?_
    rintro xe yk ⟨rfl, hk⟩
    subst hk
    go_wp2_with fail
    refine hK.out _ _ hHeld (fun _ => ?_)
    clear hK K
    refine wpAnyH_take (i := 20) (oi := { dst := some 137, op := Op.binOp BinOp.eql 27 (Operand.tmp 132) (Operand.tmp 136) 27, type := 4, pos := "law.go:148", after := #[{ on := 15, ground := Ground.data }, { on := 19, ground := Ground.data }, { on := 14, ground := Ground.guard }], guard := some (14, true) }) (v := ?_) rfl (by kernel_rfl) (by kernel_rfl) (by kernel_rfl) (fun _ _ _ h => h) (Or.inl ⟨by rfl, ?_⟩) (by assumption) ?_
    rotate_left
    · intro wz hSw
      try dsimp only at hSw
      go_simp
      all_goals (with_reducible rfl)
    simp only [Act.put, List.setIfInBounds_toArray, List.set_cons_zero, List.set_cons_succ]
    refine wpAnyH_take (i := 21) (oi := { dst := some 138, op := Op.pick (Operand.tmp 131) (Operand.tmp 137) (Operand.const (Value.bool false)), type := 4, pos := "law.go:148", after := #[{ on := 14, ground := Ground.data }, { on := 20, ground := Ground.data }], guard := none }) (v := ?_) rfl (by kernel_rfl) (by kernel_rfl) (by kernel_rfl) (fun _ _ _ h => h) (Or.inl ⟨by rfl, ?_⟩) (by assumption) ?_
    rotate_left
    · intro wz hSw
      try dsimp only at hSw
      go_simp
      all_goals (with_reducible rfl)
    simp only [Act.put, List.setIfInBounds_toArray, List.set_cons_zero, List.set_cons_succ]
    refine wpAnyH_take (i := 22) (oi := { dst := some 139, op := Op.move (Operand.tmp 138), type := 4, pos := "law.go:148", after := #[{ on := 21, ground := Ground.data }, { on := 19, ground := Ground.chain }], guard := none }) (v := ?_) rfl (by kernel_rfl) (by kernel_rfl) (by kernel_rfl) (fun _ _ _ h => h) (Or.inl ⟨by rfl, ?_⟩) (by assumption) ?_
    rotate_left
    · intro wz hSw
      try dsimp only at hSw
      go_simp
      all_goals (with_reducible rfl)
    simp only [Act.put, List.setIfInBounds_toArray, List.set_cons_zero, List.set_cons_succ]
    refine wpAnyH_take (i := 23) (oi := { dst := some 140, op := Op.move (Operand.tmp 8), type := 29, pos := "law.go:148", after := #[{ on := 22, ground := Ground.guard }], guard := some (22, true) }) (v := ?_) rfl (by kernel_rfl) (by kernel_rfl) (by kernel_rfl) (fun _ _ _ h => h) (Or.inl ⟨by rfl, ?_⟩) (by assumption) ?_
    rotate_left
    · intro wz hSw
      try dsimp only at hSw
      go_simp
      all_goals (with_reducible rfl)
    simp only [Act.put, List.setIfInBounds_toArray, List.set_cons_zero, List.set_cons_succ]
    refine wpAnyH_take (i := 25) (oi := { dst := some 142, op := Op.move (Operand.tmp 12), type := 29, pos := "law.go:148", after := #[{ on := 22, ground := Ground.guard }], guard := some (22, true) }) (v := ?_) rfl (by kernel_rfl) (by kernel_rfl) (by kernel_rfl) (fun _ _ _ h => h) (Or.inl ⟨by rfl, ?_⟩) (by assumption) ?_
    rotate_left
    · intro wz hSw
      try dsimp only at hSw
      go_simp
      all_goals (with_reducible rfl)
    simp only [Act.put, List.setIfInBounds_toArray, List.set_cons_zero, List.set_cons_succ]
    refine wpAnyH_ready (rs := [24]) (by kernel_rfl) (by simp) ?_
    refine AllReadyH.cons (o := { dst := some 141, op := Op.call { callee := Callee.value (Operand.func 12), args := #[Operand.tmp 140], argTypes := #[29] }, type := 3, pos := "law.go:148", after := #[{ on := 23, ground := Ground.data }, { on := 22, ground := Ground.chain }, { on := 22, ground := Ground.guard }], guard := some (22, true) }) rfl (fun K hK => ?_) AllReadyH.nil
    go_simp
    refine (N1 _).mono ?_
    rintro xe yk ⟨rfl, hk⟩
    subst hk
    go_wp2_with fail
    refine hK.out _ _ hHeld (fun _ => ?_)
    clear hK K
    refine wpAnyH_ready (rs := [26]) (by kernel_rfl) (by simp) ?_
    refine AllReadyH.cons (o := { dst := some 143, op := Op.call { callee := Callee.value (Operand.func 12), args := #[Operand.tmp 142], argTypes := #[29] }, type := 3, pos := "law.go:148", after := #[{ on := 25, ground := Ground.data }, { on := 24, ground := Ground.chain }, { on := 22, ground := Ground.guard }], guard := some (22, true) }) rfl (fun K hK => ?_) AllReadyH.nil
    go_simp
    refine (N1 _).mono ?_
    rintro xe yk ⟨rfl, hk⟩
    subst hk
    go_wp2_with fail
    refine hK.out _ _ hHeld (fun _ => ?_)
    clear hK K
    refine wpAnyH_take (i := 27) (oi := { dst := some 144, op := Op.binOp BinOp.eql 3 (Operand.tmp 141) (Operand.tmp 143) 3, type := 4, pos := "law.go:148", after := #[{ on := 24, ground := Ground.data }, { on := 26, ground := Ground.data }, { on := 22, ground := Ground.guard }], guard := some (22, true) }) (v := ?_) rfl (by kernel_rfl) (by kernel_rfl) (by kernel_rfl) (fun _ _ _ h => h) (Or.inl ⟨by rfl, ?_⟩) (by assumption) ?_
    rotate_left
    · intro wz hSw
      try dsimp only at hSw
      go_simp
      all_goals (with_reducible rfl)
    simp only [Act.put, List.setIfInBounds_toArray, List.set_cons_zero, List.set_cons_succ]
    refine wpAnyH_take (i := 28) (oi := { dst := some 145, op := Op.pick (Operand.tmp 139) (Operand.tmp 144) (Operand.const (Value.bool false)), type := 4, pos := "law.go:148", after := #[{ on := 22, ground := Ground.data }, { on := 27, ground := Ground.data }], guard := none }) (v := ?_) rfl (by kernel_rfl) (by kernel_rfl) (by kernel_rfl) (fun _ _ _ h => h) (Or.inl ⟨by rfl, ?_⟩) (by assumption) ?_
    rotate_left
    · intro wz hSw
      try dsimp only at hSw
      go_simp
      all_goals (with_reducible rfl)
    simp only [Act.put, List.setIfInBounds_toArray, List.set_cons_zero, List.set_cons_succ]
    refine wpAnyH_take (i := 29) (oi := { dst := some 146, op := Op.move (Operand.tmp 145), type := 4, pos := "law.go:148", after := #[{ on := 28, ground := Ground.data }, { on := 26, ground := Ground.chain }], guard := none }) (v := ?_) rfl (by kernel_rfl) (by kernel_rfl) (by kernel_rfl) (fun _ _ _ h => h) (Or.inl ⟨by rfl, ?_⟩) (by assumption) ?_
    rotate_left
    · intro wz hSw
      try dsimp only at hSw
      go_simp
      all_goals (with_reducible rfl)
    simp only [Act.put, List.setIfInBounds_toArray, List.set_cons_zero, List.set_cons_succ]
    refine wpAnyH_take (i := 30) (oi := { dst := some 147, op := Op.move (Operand.tmp 8), type := 29, pos := "law.go:148", after := #[{ on := 29, ground := Ground.guard }], guard := some (29, true) }) (v := ?_) rfl (by kernel_rfl) (by kernel_rfl) (by kernel_rfl) (fun _ _ _ h => h) (Or.inl ⟨by rfl, ?_⟩) (by assumption) ?_
    rotate_left
    · intro wz hSw
      try dsimp only at hSw
      go_simp
      all_goals (with_reducible rfl)
    simp only [Act.put, List.setIfInBounds_toArray, List.set_cons_zero, List.set_cons_succ]
    refine wpAnyH_take (i := 33) (oi := { dst := some 150, op := Op.move (Operand.tmp 7), type := 27, pos := "law.go:148", after := #[{ on := 29, ground := Ground.guard }], guard := some (29, true) }) (v := ?_) rfl (by kernel_rfl) (by kernel_rfl) (by kernel_rfl) (fun _ _ _ h => h) (Or.inl ⟨by rfl, ?_⟩) (by assumption) ?_
    rotate_left
    · intro wz hSw
      try dsimp only at hSw
      go_simp
      all_goals (with_reducible rfl)
    simp only [Act.put, List.setIfInBounds_toArray, List.set_cons_zero, List.set_cons_succ]
    refine wpAnyH_take (i := 34) (oi := { dst := some 151, op := Op.fieldAddr 24 (Operand.tmp 2) 0, type := 0, pos := "law.go:148", after := #[{ on := 29, ground := Ground.guard }], guard := some (29, true) }) (v := ?_) rfl (by kernel_rfl) (by kernel_rfl) (by kernel_rfl) (fun _ _ _ h => h) (Or.inl ⟨by rfl, ?_⟩) (by assumption) ?_
    rotate_left
    · intro wz hSw
      try dsimp only at hSw
      go_simp
      all_goals (with_reducible rfl)
    simp only [Act.put, List.setIfInBounds_toArray, List.set_cons_zero, List.set_cons_succ]
    refine wpAnyH_take (i := 35) (oi := { dst := some 152, op := Op.load 3 (Operand.tmp 151), type := 3, pos := "law.go:148", after := #[{ on := 34, ground := Ground.data }, { on := 29, ground := Ground.guard }], guard := some (29, true) }) (v := ?_) rfl (by kernel_rfl) (by kernel_rfl) (by kernel_rfl) (fun _ _ _ h => h) (Or.inl ⟨by rfl, ?_⟩) (by assumption) ?_
    rotate_left
    · intro wz hSw
      try dsimp only at hSw
      go_simp
      all_goals (with_reducible rfl)
    simp only [Act.put, List.setIfInBounds_toArray, List.set_cons_zero, List.set_cons_succ]
    refine wpAnyH_ready (rs := [31]) (by kernel_rfl) (by simp) ?_
    refine AllReadyH.cons (o := { dst := some 148, op := Op.call { callee := Callee.value (Operand.func 12), args := #[Operand.tmp 147], argTypes := #[29] }, type := 3, pos := "law.go:148", after := #[{ on := 30, ground := Ground.data }, { on := 29, ground := Ground.chain }, { on := 29, ground := Ground.guard }], guard := some (29, true) }) rfl (fun K hK => ?_) AllReadyH.nil
    go_simp
    refine (N1 _).mono ?_
    rintro xe yk ⟨rfl, hk⟩
    subst hk
    go_wp2_with fail
    refine hK.out _ _ hHeld (fun _ => ?_)
    clear hK K
    refine wpAnyH_take (i := 32) (oi := { dst := some 149, op := Op.binOp BinOp.eql 3 (Operand.tmp 148) (Operand.const (Value.int IntKind.i64 4)) 3, type := 4, pos := "law.go:148", after := #[{ on := 31, ground := Ground.data }, { on := 29, ground := Ground.guard }], guard := some (29, true) }) (v := ?_) rfl (by kernel_rfl) (by kernel_rfl) (by kernel_rfl) (fun _ _ _ h => h) (Or.inl ⟨by rfl, ?_⟩) (by assumption) ?_
    rotate_left
    · intro wz hSw
      try dsimp only at hSw
      go_simp
      all_goals (with_reducible rfl)
    simp only [Act.put, List.setIfInBounds_toArray, List.set_cons_zero, List.set_cons_succ]
    refine wpAnyH_ready (rs := [36]) (by kernel_rfl) (by simp) ?_
    refine AllReadyH.cons (o := { dst := some 153, op := Op.call { callee := Callee.value (Operand.func 26), args := #[Operand.tmp 152], argTypes := #[3] }, type := 27, pos := "law.go:148", after := #[{ on := 35, ground := Ground.data }, { on := 31, ground := Ground.chain }, { on := 29, ground := Ground.guard }], guard := some (29, true) }) rfl (fun K hK => ?_) AllReadyH.nil
    go_simp
    refine (TI _).mono ?_
    rintro xe yk ⟨rfl, hk⟩
    subst hk
    go_wp2_with fail
    refine hK.out _ _ hHeld (fun _ => ?_)
    clear hK K
    refine wpAnyH_take (i := 37) (oi := { dst := some 154, op := Op.binOp BinOp.eql 27 (Operand.tmp 150) (Operand.tmp 153) 27, type := 4, pos := "law.go:148", after := #[{ on := 33, ground := Ground.data }, { on := 36, ground := Ground.data }, { on := 29, ground := Ground.guard }], guard := some (29, true) }) (v := ?_) rfl (by kernel_rfl) (by kernel_rfl) (by kernel_rfl) (fun _ _ _ h => h) (Or.inl ⟨by rfl, ?_⟩) (by assumption) ?_
    rotate_left
    · intro wz hSw
      try dsimp only at hSw
      go_simp
      all_goals (with_reducible rfl)
    simp only [Act.put, List.setIfInBounds_toArray, List.set_cons_zero, List.set_cons_succ]
    refine wpAnyH_take (i := 38) (oi := { dst := some 155, op := Op.binOp BinOp.eql 4 (Operand.tmp 149) (Operand.tmp 154) 4, type := 4, pos := "law.go:148", after := #[{ on := 32, ground := Ground.data }, { on := 37, ground := Ground.data }, { on := 29, ground := Ground.guard }], guard := some (29, true) }) (v := ?_) rfl (by kernel_rfl) (by kernel_rfl) (by kernel_rfl) (fun _ _ _ h => h) (Or.inl ⟨by rfl, ?_⟩) (by assumption) ?_
    rotate_left
    · intro wz hSw
      try dsimp only at hSw
      go_simp
      all_goals (with_reducible rfl)
    simp only [Act.put, List.setIfInBounds_toArray, List.set_cons_zero, List.set_cons_succ]
    refine wpAnyH_take (i := 39) (oi := { dst := some 156, op := Op.pick (Operand.tmp 146) (Operand.tmp 155) (Operand.const (Value.bool false)), type := 4, pos := "law.go:148", after := #[{ on := 29, ground := Ground.data }, { on := 38, ground := Ground.data }], guard := none }) (v := ?_) rfl (by kernel_rfl) (by kernel_rfl) (by kernel_rfl) (fun _ _ _ h => h) (Or.inl ⟨by rfl, ?_⟩) (by assumption) ?_
    rotate_left
    · intro wz hSw
      try dsimp only at hSw
      go_simp
      all_goals (with_reducible rfl)
    simp only [Act.put, List.setIfInBounds_toArray, List.set_cons_zero, List.set_cons_succ]
    refine wpAnyH_take (i := 40) (oi := { dst := some 157, op := Op.move (Operand.tmp 156), type := 4, pos := "law.go:148", after := #[{ on := 39, ground := Ground.data }, { on := 36, ground := Ground.chain }], guard := none }) (v := ?_) rfl (by kernel_rfl) (by kernel_rfl) (by kernel_rfl) (fun _ _ _ h => h) (Or.inl ⟨by rfl, ?_⟩) (by assumption) ?_
    rotate_left
    · intro wz hSw
      try dsimp only at hSw
      go_simp
      all_goals (with_reducible rfl)
    simp only [Act.put, List.setIfInBounds_toArray, List.set_cons_zero, List.set_cons_succ]
    refine wpAnyH_take (i := 41) (oi := { dst := some 158, op := Op.move (Operand.tmp 10), type := 29, pos := "law.go:148", after := #[{ on := 40, ground := Ground.guard }], guard := some (40, true) }) (v := ?_) rfl (by kernel_rfl) (by kernel_rfl) (by kernel_rfl) (fun _ _ _ h => h) (Or.inl ⟨by rfl, ?_⟩) (by assumption) ?_
    rotate_left
    · intro wz hSw
      try dsimp only at hSw
      go_simp
      all_goals (with_reducible rfl)
    simp only [Act.put, List.setIfInBounds_toArray, List.set_cons_zero, List.set_cons_succ]
    refine wpAnyH_take (i := 42) (oi := { dst := some 159, op := Op.binOp BinOp.eql 29 (Operand.tmp 158) (Operand.const Value.nilIface) 29, type := 4, pos := "law.go:148", after := #[{ on := 41, ground := Ground.data }, { on := 40, ground := Ground.guard }], guard := some (40, true) }) (v := ?_) rfl (by kernel_rfl) (by kernel_rfl) (by kernel_rfl) (fun _ _ _ h => h) (Or.inl ⟨by rfl, ?_⟩) (by assumption) ?_
    rotate_left
    · intro wz hSw
      try dsimp only at hSw
      go_simp
      all_goals (with_reducible rfl)
    simp only [Act.put, List.setIfInBounds_toArray, List.set_cons_zero, List.set_cons_succ]
    refine wpAnyH_take (i := 43) (oi := { dst := some 160, op := Op.move (Operand.tmp 159), type := 4, pos := "law.go:148", after := #[{ on := 42, ground := Ground.data }, { on := 40, ground := Ground.chain }, { on := 40, ground := Ground.guard }], guard := some (40, true) }) (v := ?_) rfl (by kernel_rfl) (by kernel_rfl) (by kernel_rfl) (fun _ _ _ h => h) (Or.inl ⟨by rfl, ?_⟩) (by assumption) ?_
    rotate_left
    · intro wz hSw
      try dsimp only at hSw
      go_simp
      all_goals (with_reducible rfl)
    simp only [Act.put, List.setIfInBounds_toArray, List.set_cons_zero, List.set_cons_succ]
    refine wpAnyH_take (i := 44) (oi := { dst := some 161, op := Op.move (Operand.tmp 10), type := 29, pos := "law.go:148", after := #[{ on := 43, ground := Ground.guard }], guard := some (43, false) }) (v := ?_) rfl (by kernel_rfl) (by kernel_rfl) (by kernel_rfl) (fun _ _ _ h => h) (Or.inl ⟨by rfl, ?_⟩) (by assumption) ?_
    rotate_left
    · intro wz hSw
      try dsimp only at hSw
      go_simp
      all_goals (with_reducible rfl)
    simp only [Act.put, List.setIfInBounds_toArray, List.set_cons_zero, List.set_cons_succ]
    refine wpAnyH_ready (rs := [45]) (by kernel_rfl) (by simp) ?_
    refine AllReadyH.cons (o := { dst := some 162, op := Op.call { callee := Callee.value (Operand.func 12), args := #[Operand.tmp 161], argTypes := #[29] }, type := 3, pos := "law.go:148", after := #[{ on := 44, ground := Ground.data }, { on := 43, ground := Ground.chain }, { on := 43, ground := Ground.guard }], guard := some (43, false) }) rfl (fun K hK => ?_) AllReadyH.nil
    go_simp
    refine (N2 _).mono ?_
    rintro xe yk ⟨rfl, hk⟩
    subst hk
    go_wp2_with fail
    refine hK.out _ _ hHeld (fun _ => ?_)
    clear hK K
    refine wpAnyH_take (i := 46) (oi := { dst := some 163, op := Op.binOp BinOp.eql 3 (Operand.tmp 162) (Operand.const (Value.int IntKind.i64 4)) 3, type := 4, pos := "law.go:148", after := #[{ on := 45, ground := Ground.data }, { on := 43, ground := Ground.guard }], guard := some (43, false) }) (v := ?_) rfl (by kernel_rfl) (by kernel_rfl) (by kernel_rfl) (fun _ _ _ h => h) (Or.inl ⟨by rfl, ?_⟩) (by assumption) ?_
    rotate_left
    · intro wz hSw
      try dsimp only at hSw
      go_simp
      all_goals (with_reducible rfl)
    simp only [Act.put, List.setIfInBounds_toArray, List.set_cons_zero, List.set_cons_succ]
    refine wpAnyH_take (i := 47) (oi := { dst := some 164, op := Op.pick (Operand.tmp 160) (Operand.const (Value.bool true)) (Operand.tmp 163), type := 4, pos := "law.go:148", after := #[{ on := 43, ground := Ground.data }, { on := 46, ground := Ground.data }, { on := 40, ground := Ground.guard }], guard := some (40, true) }) (v := ?_) rfl (by kernel_rfl) (by kernel_rfl) (by kernel_rfl) (fun _ _ _ h => h) (Or.inl ⟨by rfl, ?_⟩) (by assumption) ?_
    rotate_left
    · intro wz hSw
      try dsimp only at hSw
      go_simp
      all_goals (with_reducible rfl)
    simp only [Act.put, List.setIfInBounds_toArray, List.set_cons_zero, List.set_cons_succ]
    refine wpAnyH_take (i := 48) (oi := { dst := some 165, op := Op.pick (Operand.tmp 157) (Operand.tmp 164) (Operand.const (Value.bool false)), type := 4, pos := "law.go:148", after := #[{ on := 40, ground := Ground.data }, { on := 47, ground := Ground.data }], guard := none }) (v := ?_) rfl (by kernel_rfl) (by kernel_rfl) (by kernel_rfl) (fun _ _ _ h => h) (Or.inl ⟨by rfl, ?_⟩) (by assumption) ?_
    rotate_left
    · intro wz hSw
      try dsimp only at hSw
      go_simp
      all_goals (with_reducible rfl)
    simp only [Act.put, List.setIfInBounds_toArray, List.set_cons_zero, List.set_cons_succ]
    refine wpAnyH_take (i := 49) (oi := { dst := some 166, op := Op.move (Operand.tmp 165), type := 4, pos := "law.go:148", after := #[{ on := 48, ground := Ground.data }, { on := 45, ground := Ground.chain }], guard := none }) (v := ?_) rfl (by kernel_rfl) (by kernel_rfl) (by kernel_rfl) (fun _ _ _ h => h) (Or.inl ⟨by rfl, ?_⟩) (by assumption) ?_
    rotate_left
    · intro wz hSw
      try dsimp only at hSw
      go_simp
      all_goals (with_reducible rfl)
    simp only [Act.put, List.setIfInBounds_toArray, List.set_cons_zero, List.set_cons_succ]
    refine wpAnyH_ready (rs := [50]) (by kernel_rfl) (by simp) ?_
    refine AllReadyH.cons (o := { dst := some 167, op := Op.call { callee := Callee.value (Operand.func 14), args := #[], argTypes := #[] }, type := 4, pos := "law.go:148", after := #[{ on := 49, ground := Ground.chain }, { on := 49, ground := Ground.guard }], guard := some (49, true) }) rfl (fun K hK => ?_) AllReadyH.nil
    go_simp
    refine (HW _ (H0.out.1.next G3.out.1.drew)).mono ?_
    rintro xe yk ⟨rfl, hb⟩
    have BK : Hid (Below w.heap.size w yk) := G3.out.1.drew.trans (hb.mono G3.out.1.drew.size)
    have KK : Hid (FvB yk w.heap.size (.int .i64 s) (.bool c) (.slice ao n cn) (.slice bo m cm) (.int .i64 e)) := (G3.out.2.1.step (Below.refl _ _).drew).step hb
    clear hb
    obtain ⟨_, k0, k1, k2, k3, k4⟩ := KK.out
    go_wp2_with fail
    refine hK.out _ _ ⟨k0, k1, k2, k3, k4⟩ (fun hHeld => ?_)
    clear hK K
    refine wpAnyH_take (i := 51) (oi := { dst := some 168, op := Op.pick (Operand.tmp 166) (Operand.tmp 167) (Operand.const (Value.bool false)), type := 4, pos := "law.go:148", after := #[{ on := 49, ground := Ground.data }, { on := 50, ground := Ground.data }], guard := none }) (v := ?_) rfl (by kernel_rfl) (by kernel_rfl) (by kernel_rfl) (fun _ _ _ h => h) (Or.inl ⟨by rfl, ?_⟩) (by assumption) ?_
    rotate_left
    · intro wz hSw
      try dsimp only at hSw
      go_simp
      all_goals (with_reducible rfl)
    simp only [Act.put, List.setIfInBounds_toArray, List.set_cons_zero, List.set_cons_succ]
    refine wpAnyH_take (i := 52) (oi := { dst := some 4, op := Op.assign (Operand.tmp 168), type := 4, pos := "law.go:148", after := #[{ on := 51, ground := Ground.data }, { on := 50, ground := Ground.chain }, { on := 0, ground := Ground.phase }, { on := 1, ground := Ground.phase }, { on := 2, ground := Ground.phase }, { on := 3, ground := Ground.phase }, { on := 4, ground := Ground.phase }, { on := 5, ground := Ground.phase }, { on := 6, ground := Ground.phase }, { on := 7, ground := Ground.phase }, { on := 8, ground := Ground.phase }, { on := 9, ground := Ground.phase }, { on := 10, ground := Ground.phase }, { on := 11, ground := Ground.phase }, { on := 12, ground := Ground.phase }, { on := 13, ground := Ground.phase }, { on := 14, ground := Ground.phase }, { on := 15, ground := Ground.phase }, { on := 16, ground := Ground.phase }, { on := 17, ground := Ground.phase }, { on := 18, ground := Ground.phase }, { on := 19, ground := Ground.phase }, { on := 20, ground := Ground.phase }, { on := 21, ground := Ground.phase }, { on := 22, ground := Ground.phase }, { on := 23, ground := Ground.phase }, { on := 24, ground := Ground.phase }, { on := 25, ground := Ground.phase }, { on := 26, ground := Ground.phase }, { on := 27, ground := Ground.phase }, { on := 28, ground := Ground.phase }, { on := 29, ground := Ground.phase }, { on := 30, ground := Ground.phase }, { on := 31, ground := Ground.phase }, { on := 32, ground := Ground.phase }, { on := 33, ground := Ground.phase }, { on := 34, ground := Ground.phase }, { on := 35, ground := Ground.phase }, { on := 36, ground := Ground.phase }, { on := 37, ground := Ground.phase }, { on := 38, ground := Ground.phase }, { on := 39, ground := Ground.phase }, { on := 40, ground := Ground.phase }, { on := 41, ground := Ground.phase }, { on := 42, ground := Ground.phase }, { on := 43, ground := Ground.phase }, { on := 44, ground := Ground.phase }, { on := 45, ground := Ground.phase }, { on := 46, ground := Ground.phase }, { on := 47, ground := Ground.phase }, { on := 48, ground := Ground.phase }, { on := 49, ground := Ground.phase }, { on := 50, ground := Ground.phase }, { on := 51, ground := Ground.phase }], guard := none }) (v := ?_) rfl (by kernel_rfl) (by kernel_rfl) (by kernel_rfl) (fun _ _ _ h => h) (Or.inl ⟨by rfl, ?_⟩) (by assumption) ?_
    rotate_left
    · intro wz hSw
      try dsimp only at hSw
      go_simp
      all_goals (with_reducible rfl)
    simp only [Act.put, List.setIfInBounds_toArray, List.set_cons_zero, List.set_cons_succ]
    refine wpAnyH_done (by kernel_rfl) ?_ _
    go_wp2
    go_ret
    exact ⟨rfl, BK.out⟩
end Go.Proofs.YtealnajogkeckaaDoor
