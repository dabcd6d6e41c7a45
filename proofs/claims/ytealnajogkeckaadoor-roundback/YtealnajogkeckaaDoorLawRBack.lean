/-
  The law RoundBack: the value of a float is rounded to it; the place half way to the next one to that whose last bit is 0; a hair's breadth to either side decides.
-/
import Derived.Test.YtealnajogkeckaaDoorRnL
import Derived.Test.YtealnajogkeckaaDoorRnP
import Derived.Deep.DeepCutAuto
namespace Go.Proofs.YtealnajogkeckaaDoor
open Go.RowKit

/-- How great a fraction's parts are at most. -/
theorem Frc.le {N D m : Nat} {e : Int} (h : Frc N D m e) : N ≤ m * 2 ^ e.toNat ∧ D ≤ 2 ^ (-e).toNat := by
  obtain ⟨v, k, rfl, hk⟩ := h
  by_cases c : 0 ≤ e
  · have q := v.at 0 (Int.le_refl _) c
    unfold ev at q
    rw [show (0 - (0 : Int)).toNat = 0 from rfl, Nat.pow_zero, Nat.mul_one, Int.sub_zero] at q
    have k0 : k = 0 := by
      rcases hk with o | o
      · rcases Nat.eq_zero_or_pos k with z | z
        · exact z
        · exfalso
          rw [q, show k = k - 1 + 1 from by omega, Nat.pow_succ, Nat.mul_assoc, Nat.mul_left_comm, Nat.mul_mod_right] at o
          omega
      · exact o
    subst k0
    rw [Nat.pow_zero, Nat.one_mul] at q
    exact ⟨Nat.le_of_eq q, Nat.two_pow_pos _⟩
  · have q := v.at e (by omega) (Int.le_refl _)
    unfold ev at q
    rw [Int.sub_self, show (0 : Int).toNat = 0 from rfl, Nat.pow_zero, Nat.mul_one, show (0 - e).toNat = (-e).toNat from by omega] at q
    rw [show e.toNat = 0 from by omega, Nat.pow_zero, Nat.mul_one]
    generalize (-e).toNat = t at *
    have kt : k ≤ t := by
      apply Nat.le_of_not_lt
      intro z
      rcases hk with o | o
      · rw [show k = (k - t - 1) + 1 + t from by omega, Nat.pow_add, Nat.mul_assoc, Nat.mul_comm (2 ^ t) m, ← Nat.mul_assoc] at q
        have q' := Nat.eq_of_mul_eq_mul_right (Nat.two_pow_pos t) q
        rw [q', Nat.pow_succ, Nat.mul_assoc, Nat.mul_left_comm, Nat.mul_mod_right] at o
        omega
      · omega
    have le := Nat.pow_le_pow_right (n := 2) (by omega) kt
    refine ⟨?_, le⟩
    apply Nat.le_of_mul_le_mul_right (c := 2 ^ t) ?_ (Nat.two_pow_pos t)
    rw [q, Nat.mul_comm m]
    exact Nat.mul_le_mul_right _ le
theorem rmag_z {s : Int} {g n f T : Nat} {L : Int} (hz : Fz s g n f T L) {b : Nat} (hb : b < 2 * g) (w : World) : Calls Tryd.prog 21 #[.int .u64 (b : Int), .int .i64 s] w fun e w' => e = .returned (.int .u64 ((mg g b : Nat) : Int)) ∧ w' = w := by
  rcases hz with ⟨rfl, rfl, rfl, rfl, rfl, rfl⟩ | ⟨rfl, rfl, rfl, rfl, rfl, rfl⟩
  · exact rmag_32 hb w
  · exact rmag_64 hb w
theorem sgd_back {g b : Nat} (hb : b < 2 * g) : sgd g (ng g b) (mg g b) = b := by
  unfold sgd ng mg
  by_cases c : g ≤ b
  · rw [decide_eq_true c, if_pos rfl, Nat.mod_eq_sub_mod c, Nat.mod_eq_of_lt (by omega)]
    omega
  · rw [decide_eq_false c, if_neg (by decide), Nat.mod_eq_of_lt (by omega)]
set_option maxRecDepth 100000 in
set_option maxHeartbeats 2000000 in
theorem rback_err {b : Nat} {s : Int} {k : Int} (H : ∀ W, Calls Tryd.prog 17 #[.int .u64 (b : Int), .int .i64 s] W fun e w' => e = .returned (.tuple #[.bool false, .slice none 0 0, .slice none 0 0, .iface 76 (.int .i64 k)]) ∧ Below W.heap.size W w') (w : World) (hT : Tab w) : Calls Tryd.prog 6 #[.int .u64 (b : Int), .int .i64 s] w fun x w' => x = .returned (.bool true) ∧ Below w.heap.size w w' := by
  have HW := fun W hW => works_any W hW
  have HT : Hid (Tab w) := hT
  clear hT
  go_enter Tryd.func6, Tryd.ntmps6
  go_wp2_with fail
  refine (H _).mono ?_
  rintro x w1 ⟨rfl, b1⟩
  have B1 : Hid (Below w.heap.size w w1) := b1
  clear b1
  go_wp2_with fail
  refine (HW _ (HT.out.next B1.out)).mono ?_
  rintro x w2 ⟨rfl, b2⟩
  have B2 : Hid (Below w.heap.size w w2) := B1.out.trans (b2.mono B1.out.size)
  clear b2
  go_wp2
  go_ret
  exact ⟨rfl, B2.out⟩
set_option maxRecDepth 100000 in
set_option maxHeartbeats 2000000 in
theorem rback_walk {b m E I : Nat} {s : Int} {c : Bool} {N D X Y k1 k2 : Nat} {β1 β2 : Bool} {Z : Nat} (hZ : 2 ^ 200 = Z) (hm : m + 1 < 18446744073709551616) (hE : (m % 2 = 1 ∧ E = m + 1) ∨ (m % 2 = 0 ∧ E = m)) (x0 : X ≠ 0) (fX : bl X ≤ 2000) (fY : bl Y ≤ 2000)
    (q1 : ((k1 : Int) == 4) = β1) (q2 : ((E : Int) == (I : Int)) = β1) (q3 : ((k2 : Int) == 4) = β2) (q4 : (((m : Int) + 1) == (I : Int)) = β2)
    (HV : ∀ W, Tab W → Calls Tryd.prog 17 #[.int .u64 (b : Int), .int .i64 s] W fun x w' => ∃ v1 v2, x = .returned (.tuple #[.bool c, v1, v2, .nilIface]) ∧ NatV w' v1 N ∧ NatV w' v2 D ∧ Below W.heap.size W w')
    (R1 : ∀ W vn vd, Tab W → NatV W vn (N) → NatV W vd (D) → Calls Tryd.prog 10 #[.int .i64 s, .bool c, vn, vd, .int .i64 0] W fun x w' => x = .returned (.tuple #[.int .u64 (b : Int), .nilIface]) ∧ Below W.heap.size W w')
    (HG : ∀ W, Calls Tryd.prog 21 #[.int .u64 (b : Int), .int .i64 s] W fun e w' => e = .returned (.int .u64 (m : Int)) ∧ w' = W)
    (HH : ∀ W, Tab W → Calls Tryd.prog 19 #[.int .u64 (m : Int), .int .i64 s] W fun x w' => ∃ v1 v2, x = .returned (.tuple #[v1, v2, .nilIface]) ∧ NatV w' v1 X ∧ NatV w' v2 Y ∧ Below W.heap.size W w')
    (R2 : ∀ W vn vd, Tab W → NatV W vn (X) → NatV W vd (Y) → Calls Tryd.prog 10 #[.int .i64 s, .bool false, vn, vd, .int .i64 0] W fun x w' => x = .returned (.tuple #[.int .u64 (E : Int), errV k1]) ∧ Below W.heap.size W w')
    (R3 : ∀ W vn vd, Tab W → NatV W vn (X * Z + 1) → NatV W vd (Y * Z) → Calls Tryd.prog 10 #[.int .i64 s, .bool false, vn, vd, .int .i64 0] W fun x w' => x = .returned (.tuple #[.int .u64 ((m : Int) + 1), errV k2]) ∧ Below W.heap.size W w')
    (R4 : ∀ W vn vd, Tab W → NatV W vn (X * Z - 1) → NatV W vd (Y * Z) → Calls Tryd.prog 10 #[.int .i64 s, .bool false, vn, vd, .int .i64 0] W fun x w' => x = .returned (.tuple #[.int .u64 (m : Int), .nilIface]) ∧ Below W.heap.size W w')
    (HI : ∀ W, Calls Tryd.prog 26 #[.int .i64 s] W fun e w' => e = .returned (.int .u64 (I : Int)) ∧ w' = W)
    (w : World) (hT : Tab w) : Calls Tryd.prog 6 #[.int .u64 (b : Int), .int .i64 s] w fun x w' => x = .returned (.bool true) ∧ Below w.heap.size w w' := by
  have HW := fun W hW => works_any W hW
  have N1 := fun W => num_any k1 W
  have N2 := fun W => num_any k2 W
  have O1 : ∀ W, Calls Tryd.prog 24 #[.int .u64 1] W fun e w' => ∃ v, e = .returned v ∧ NatV w' v 1 ∧ Below W.heap.size W w' := fun W => of_any 1 (by unfold B; decide) W
  have L1 : ∀ W v, NatV W v X → Calls Tryd.prog 22 #[v, .int .i64 200] W fun e w' => ∃ v, e = .returned (.tuple #[v, .nilIface]) ∧ NatV w' v (X * Z) ∧ Below W.heap.size W w' := fun W v h => by
    have q := shl_ok h 200 (pow_fit (by omega)) (by omega)
    rw [hZ] at q
    exact q
  have L2 : ∀ W v, NatV W v Y → Calls Tryd.prog 22 #[v, .int .i64 200] W fun e w' => ∃ v, e = .returned (.tuple #[v, .nilIface]) ∧ NatV w' v (Y * Z) ∧ Below W.heap.size W w' := fun W v h => by
    have q := shl_ok h 200 (pow_fit (by omega)) (by omega)
    rw [hZ] at q
    exact q
  have z0 : 0 < Z := by rw [← hZ]; exact Nat.two_pow_pos 200
  have bx : X * Z + 1 < B ^ 128 := by
    have a := pow_fit (X := X) (s := 200 + 1) (K := 128) (by omega)
    rw [Nat.pow_succ, hZ, ← Nat.mul_assoc] at a
    have c := Nat.mul_pos (Nat.pos_of_ne_zero x0) z0
    generalize X * Z = z at *
    generalize B ^ 128 = y at *
    omega
  have xp : 1 ≤ X * Z := Nat.mul_pos (Nat.pos_of_ne_zero x0) z0
  generalize X * Z = X' at *
  generalize Y * Z = Y' at *
  clear hZ z0
  generalize hp1 : X' + 1 = Xp at *
  generalize hm1 : X' - 1 = Xm at *
  have HX : Hid (Xp < B ^ 128 ∧ 1 ≤ X' ∧ X' + 1 = Xp ∧ X' - 1 = Xm) := ⟨bx, xp, hp1, hm1⟩
  have HT : Hid (Tab w) := hT
  have HE : Hid _ := hE
  generalize errV k1 = V1 at *
  generalize errV k2 = V2 at *
  have T := HV w hT
  clear hT bx xp x0 fX fY hE HV hp1 hm1
  go_enter Tryd.func6, Tryd.ntmps6
  go_wp2_with fail
  refine T.mono ?_
  rintro x w1 ⟨v1, v2, rfl, n1, n2, b1⟩
  have B1 : Hid (Below w.heap.size w w1) := b1
  have T := R1 w1 v1 v2 (HT.out.next b1) n1 n2
  clear n1 n2 b1 R1
  go_wp2_with fail
  refine T.mono ?_
  rintro x w2 ⟨rfl, b2⟩
  have B2 : Hid (Below w.heap.size w w2) := B1.out.trans (b2.mono B1.out.size)
  clear b2 B1 T
  go_wp2_with fail
  refine (HG _).mono ?_
  rintro x w3 ⟨rfl, h3⟩
  subst h3
  have T := HH w3 (HT.out.next B2.out)
  clear HG HH
  go_wp2_with fail
  refine T.mono ?_
  rintro x w4 ⟨v3, v4, rfl, n3, n4, b4⟩
  have F4 : Hid (NatV w4 v3 X ∧ NatV w4 v4 Y ∧ Below w.heap.size w w4) := ⟨n3, n4, B2.out.trans (b4.mono B2.out.size)⟩
  clear n3 n4 b4 B2 T
  go_upto_if 86 with fail
  go_cut [15] (fun u wx => u = .int .u64 (E : Int) ∧ wx = w4)
  case first =>
    rcases HE.out with ⟨z, hq⟩ | ⟨z, hq⟩
    · have z' : (m : Int) % 2 = 1 := by omega
      have HQ : Hid (E = m + 1) := hq
      clear z hq
      go_wp2
      go_meet
      exact ⟨by rw [HQ.out]; push_cast; rfl, rfl⟩
    · have z' : (m : Int) % 2 = 0 := by omega
      have HQ : Hid (E = m) := hq
      clear z hq
      go_wp2
      go_meet
      exact ⟨by rw [HQ.out], rfl⟩
  case rest =>
  obtain ⟨rfl, hcw⟩ := hcut
  subst wc
  have T := R2 w4 v3 v4 (HT.out.next F4.out.2.2) F4.out.1 F4.out.2.1
  clear R2
  go_wp2_with fail
  refine T.mono ?_
  rintro x w5 ⟨rfl, b5⟩
  have F5 : Hid (NatV w5 v3 X ∧ NatV w5 v4 Y ∧ Below w.heap.size w w5) := ⟨F4.out.1.below b5, F4.out.2.1.below b5, F4.out.2.2.trans (b5.mono F4.out.2.2.size)⟩
  have T := L1 w5 v3 F5.out.1
  clear b5 F4
  go_wp2_with fail
  refine T.mono ?_
  rintro x w6 ⟨v5, rfl, n5, b6⟩
  have F6 : Hid (NatV w6 v5 X' ∧ NatV w6 v4 Y ∧ Below w.heap.size w w6) := ⟨n5, F5.out.2.1.below b6, F5.out.2.2.trans (b6.mono F5.out.2.2.size)⟩
  have T := L2 w6 v4 F6.out.2.1
  clear n5 b6 F5 L1
  go_wp2_with fail
  refine T.mono ?_
  rintro x w7 ⟨v6, rfl, n6, b7⟩
  have F7 : Hid (NatV w7 v5 X' ∧ NatV w7 v6 Y' ∧ Below w.heap.size w w7) := ⟨F6.out.1.below b7, n6, F6.out.2.2.trans (b7.mono F6.out.2.2.size)⟩
  clear n6 b7 F6 L2 T
  go_wp2_with fail
  refine (O1 _).mono ?_
  rintro x w8 ⟨v7, rfl, n7, b8⟩
  have F8 : Hid (NatV w8 v5 X' ∧ NatV w8 v6 Y' ∧ Below w.heap.size w w8) := ⟨F7.out.1.below b8, F7.out.2.1.below b8, F7.out.2.2.trans (b8.mono F7.out.2.2.size)⟩
  have T := add_ok F8.out.1 n7 (by rw [HX.out.2.2.1]; exact HX.out.1)
  rw [HX.out.2.2.1] at T
  clear n7 b8 F7
  go_wp2_with fail
  refine T.mono ?_
  rintro x w9 ⟨v8, rfl, n8, b9⟩
  have F9 : Hid (NatV w9 v5 X' ∧ NatV w9 v6 Y' ∧ NatV w9 v8 Xp ∧ Below w.heap.size w w9) := ⟨F8.out.1.below b9, F8.out.2.1.below b9, n8, F8.out.2.2.trans (b9.mono F8.out.2.2.size)⟩
  clear n8 b9 F8 T
  go_wp2_with fail
  refine (O1 _).mono ?_
  rintro x w10 ⟨v9, rfl, n9, b10⟩
  have F10 : Hid (NatV w10 v6 Y' ∧ NatV w10 v8 Xp ∧ Below w.heap.size w w10) := ⟨F9.out.2.1.below b10, F9.out.2.2.1.below b10, F9.out.2.2.2.trans (b10.mono F9.out.2.2.2.size)⟩
  have T := sub_ok (F9.out.1.below b10) n9 HX.out.2.1
  rw [HX.out.2.2.2] at T
  clear n9 b10 F9
  go_wp2_with fail
  refine T.mono ?_
  rintro x w11 ⟨v10, rfl, n10, b11⟩
  have F11 : Hid (NatV w11 v6 Y' ∧ NatV w11 v8 Xp ∧ NatV w11 v10 Xm ∧ Below w.heap.size w w11) := ⟨F10.out.1.below b11, F10.out.2.1.below b11, n10, F10.out.2.2.trans (b11.mono F10.out.2.2.size)⟩
  have T := R3 w11 v8 v6 (HT.out.next F11.out.2.2.2) F11.out.2.1 F11.out.1
  clear n10 b11 F10 R3
  go_wp2_with fail
  refine T.mono ?_
  rintro x w12 ⟨rfl, b12⟩
  have F12 : Hid (NatV w12 v6 Y' ∧ NatV w12 v10 Xm ∧ Below w.heap.size w w12) := ⟨F11.out.1.below b12, F11.out.2.2.1.below b12, F11.out.2.2.2.trans (b12.mono F11.out.2.2.2.size)⟩
  have T := R4 w12 v10 v6 (HT.out.next F12.out.2.2) F12.out.2.1 F12.out.1
  clear b12 F11 R4
  go_wp2_with fail
  refine T.mono ?_
  rintro x w13 ⟨rfl, b13⟩
  have B13 : Hid (Below w.heap.size w w13) := F12.out.2.2.trans (b13.mono F12.out.2.2.size)
  clear b13 F12 T
  go_wp2_with fail
  refine (HI _).mono ?_
  rintro x w14 ⟨rfl, h14⟩
  subst h14
  go_wp2_with fail
  refine (N1 _).mono ?_
  rintro x w15 ⟨rfl, h15⟩
  subst h15
  go_wp2_with fail
  refine (N2 _).mono ?_
  rintro x w16 ⟨rfl, h16⟩
  subst h16
  go_wp2_with fail
  refine (HW _ (HT.out.next B13.out)).mono ?_
  rintro x w17 ⟨rfl, b17⟩
  have B17 : Hid (Below w.heap.size w w17) := B13.out.trans (b17.mono B13.out.size)
  clear b17 B13
  go_wp2
  all_goals go_ret
  all_goals exact ⟨rfl, B17.out⟩
theorem law_rback (b : Nat) (hb : b < 18446744073709551616) (s : Int) (w : World) (hT : Tab w) : Calls Tryd.prog 6 #[.int .u64 (b : Int), .int .i64 s] w fun x w' => x = .returned (.bool true) ∧ Below w.heap.size w w' := by
  rcases bits_cases b hb s with h | ⟨rfl, h⟩ | ⟨g, n, f, T, L, hz, hb2⟩
  · exact rback_err (fun W => value_err fun W => fin_size h _ W) w hT
  · exact rback_err (fun W => value_err fun W => fin_big h W) w hT
  by_cases hm : mg g b < n
  · have hf : 0 < f ∧ f ≤ 52 ∧ 2 ≤ T ∧ n = T * 2 ^ f ∧ n < g ∧ g ≤ 9223372036854775808 := by rcases hz with ⟨_, rfl, rfl, rfl, rfl, _⟩ | ⟨_, rfl, rfl, rfl, rfl, _⟩ <;> decide
    obtain ⟨f1, f2, t2, hn, hg, hg2⟩ := hf
    obtain ⟨p1, p2, p3⟩ := parts_in hz hm
    have hI : mg g b < T * 2 ^ f := by rw [← hn]; exact hm
    have hmg : mg g b < g := by omega
    have FV := ex_frc (mt f (mg g b)) (xp f L (mg g b))
    have FH := ex_frc (hM f (mg g b)) (hX f L (mg g b))
    have x0 := half_ne FH
    have le := FH.le
    have hM1 : hM f (mg g b) < 2 ^ 54 := by unfold hM; omega
    have bX : bl (exN (hM f (mg g b)) (hX f L (mg g b))) ≤ 2000 := by
      refine Nat.le_trans (bl_mono_le (L := 54 + (hX f L (mg g b)).toNat) ?_) (by unfold hX; omega)
      refine Nat.lt_of_le_of_lt le.1 ?_
      rw [Nat.pow_add]
      exact Nat.mul_lt_mul_of_pos_right hM1 (Nat.two_pow_pos _)
    have bY : bl (exD (hM f (mg g b)) (hX f L (mg g b))) ≤ 2000 := by
      refine Nat.le_trans (bl_mono_le (L := (-hX f L (mg g b)).toNat + 1) ?_) (by unfold hX; omega)
      exact Nat.lt_of_le_of_lt le.2 (Nat.pow_lt_pow_right (by omega) (by omega))
    have hr := rdA_hair (T := T) (g := 2 ^ 200) f1 hI FH (Nat.le_trans (by decide : 2 ≤ 2 ^ 1) (Nat.pow_le_pow_right (by omega) (by omega)))
    have hh := rdA_half (T := T) f1 FH
    have hv := rdA_val f1 hI FV
    obtain ⟨Z, hZ⟩ : ∃ Z, 2 ^ 200 = Z := ⟨_, rfl⟩
    have z0 : 0 < Z := by rw [← hZ]; exact Nat.two_pow_pos 200
    rw [hZ] at hr
    have ratio : ∀ (c : Bool) (X Y : Nat) (y k : Nat), Y ≠ 0 → (rdA f T L X Y 0 false).1 = y → (if (rdA f T L X Y 0 false).2 then 4 else 0) = k → ∀ W vn vd, Tab W → NatV W vn X → NatV W vd Y → Calls Tryd.prog 10 #[.int .i64 s, .bool c, vn, vd, .int .i64 0] W fun x w' => x = .returned (.tuple #[.int .u64 ((sgd g c y : Nat) : Int), errV k]) ∧ Below W.heap.size W w' := fun c X Y y k y0 h1 h2 W vn vd hW n1 n2 => by
      have q := ratio_ok (e := 0) hz c (by omega) (by omega) hW n1 n2 y0
      rw [anV_err, h1, h2] at q
      exact q
    generalize exN (hM f (mg g b)) (hX f L (mg g b)) = X at *
    have yp := FH.pos
    generalize exD (hM f (mg g b)) (hX f L (mg g b)) = Y at *
    have dp := FV.pos
    obtain ⟨E, hE⟩ : ∃ E, (if mg g b % 2 = 0 then mg g b else mg g b + 1) = E := ⟨_, rfl⟩
    have hE2 : (mg g b % 2 = 1 ∧ E = mg g b + 1) ∨ (mg g b % 2 = 0 ∧ E = mg g b) := by rw [← hE]; split <;> omega
    rw [hE] at hh
    have hE3 : E ≤ T * 2 ^ f := by omega
    have r2 : (rdA f T L X Y 0 false).1 = E ∧ (if (rdA f T L X Y 0 false).2 then 4 else 0) = (if E = T * 2 ^ f then 4 else 0 : Nat) := by
      rw [hh]
      by_cases c : E < T * 2 ^ f
      · rw [if_pos c]
        refine ⟨rfl, ?_⟩
        show (0 : Nat) = _
        rw [if_neg (by omega)]
      · rw [if_neg c]
        refine ⟨by show T * 2 ^ f = E; omega, ?_⟩
        show (4 : Nat) = _
        rw [if_pos (by omega)]
    have r3 : (rdA f T L (X * Z + 1) (Y * Z) 0 false).1 = mg g b + 1 ∧ (if (rdA f T L (X * Z + 1) (Y * Z) 0 false).2 then 4 else 0) = (if mg g b + 1 = T * 2 ^ f then 4 else 0 : Nat) := by
      rw [hr.1]
      by_cases c : mg g b + 1 < T * 2 ^ f
      · rw [if_pos c]
        refine ⟨rfl, ?_⟩
        show (0 : Nat) = _
        rw [if_neg (by omega)]
      · rw [if_neg c]
        refine ⟨by show T * 2 ^ f = mg g b + 1; omega, ?_⟩
        show (4 : Nat) = _
        rw [if_pos (by omega)]
    have yz : Y * Z ≠ 0 := Nat.ne_of_gt (Nat.mul_pos yp z0)
    have four : ∀ (a : Nat), (((if a = T * 2 ^ f then 4 else 0 : Nat) : Int) == 4) = ((a : Int) == ((T * 2 ^ f : Nat) : Int)) := fun a => by
      by_cases c : a = T * 2 ^ f
      · rw [if_pos c, c]; simp
      · rw [if_neg c]
        have : ((a : Int) == ((T * 2 ^ f : Nat) : Int)) = false := by simp only [beq_eq_false_iff_ne, ne_eq, Int.natCast_inj]; exact c
        rw [this]; rfl
    refine rback_walk (c := ng g b) (N := exN (mt f (mg g b)) (xp f L (mg g b))) (D := exD (mt f (mg g b)) (xp f L (mg g b))) (E := E) (I := T * 2 ^ f) (k1 := if E = T * 2 ^ f then 4 else 0) (k2 := if mg g b + 1 = T * 2 ^ f then 4 else 0) hZ (by omega) hE2 x0 bX bY (four E) rfl (four (mg g b + 1)) (by push_cast; rfl)
      (fun W hW => ?_) ?_ (fun W => rmag_z hz hb2 W) (fun W hW => ?_) ?_ ?_ ?_ (fun W => rinf_z hz W) w hT
    · refine (value_ok hz hb2 hm W hW).mono ?_
      rintro x w' ⟨v1, v2, N', D', h1, n1, n2, hf, h2⟩
      obtain ⟨rfl, rfl⟩ := hf.uniq FV
      exact ⟨v1, v2, h1, n1, n2, h2⟩
    · have q := ratio (ng g b) _ _ (mg g b) 0 (Nat.ne_of_gt dp) (by rw [hv]) (by rw [hv]; rfl)
      rw [sgd_back hb2] at q
      exact q
    · refine (half_ok hz hmg hm W hW).mono ?_
      rintro x w' ⟨v1, v2, N', D', h1, n1, n2, hf, h2⟩
      obtain ⟨rfl, rfl⟩ := hf.uniq FH
      exact ⟨v1, v2, h1, n1, n2, h2⟩
    · exact ratio false X Y E _ (Nat.ne_of_gt yp) r2.1 r2.2
    · have q := ratio false (X * Z + 1) (Y * Z) (mg g b + 1) _ yz r3.1 r3.2
      intro W vn vd hW n1 n2
      refine (q W vn vd hW n1 n2).mono fun x w' h => ⟨?_, h.2⟩
      rw [h.1]
      show _ = _
      rw [show (sgd g false (mg g b + 1)) = mg g b + 1 from rfl]
      push_cast; rfl
    · exact ratio false (X * Z - 1) (Y * Z) (mg g b) 0 yz (by rw [hr.2]) (by rw [hr.2]; rfl)
  · exact rback_err (fun W => value_err fun W => fin_no hz hb2 hm W) w hT
end Go.Proofs.YtealnajogkeckaaDoor
